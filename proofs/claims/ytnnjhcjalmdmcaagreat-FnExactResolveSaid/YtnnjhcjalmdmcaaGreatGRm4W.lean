/- Walks: impl.readingOf, but for records. -/
import Derived.Test.YtnnjhcjalmdmcaaGreatGRm2W
namespace Go.Proofs.YtnnjhcjalmdmcaaGreat
open Go.RowKit

theorem one_at {w : World} {a : Option Addr} {n m : Nat} {x : Sh} (h : IsShs w (.slice a n m) [x]) : n = 1 ∧ ∃ b off p1 n1 m1 p2 n2 m2 p3 n3 m3, a = some ⟨b, off, none⟩ ∧
    w.cell? ⟨b, off, none⟩ = some (.int .i64 x.kd) ∧ w.cell? ⟨b, off + 1, none⟩ = some (.slice p1 n1 m1) ∧ w.cell? ⟨b, off + 2, none⟩ = some (.slice p2 n2 m2) ∧ w.cell? ⟨b, off + 3, none⟩ = some (.slice p3 n3 m3) ∧ IsSh w x (.agg #[.int .i64 x.kd, .slice p1 n1 m1, .slice p2 n2 m2, .slice p3 n3 m3]) ∧ 1 ≤ m ∧ m ≤ 9223372036854775807 := by
  obtain ⟨a', cap, he, h1, h2, h3⟩ := h
  simp only [Value.slice.injEq] at he
  obtain ⟨rfl, rfl, rfl⟩ := he
  obtain ⟨b, off, rfl, c0, c1, c2, c3, k0, k1, k2, k3, k4⟩ := IsShs.at h3 (show 0 < [x].length by simp)
  have k4' : IsSh w x (.agg #[c0, c1, c2, c3]) := k4
  obtain ⟨p1, n1, m1, p2, n2, m2, p3, n3, m3, rfl, rfl, rfl, rfl⟩ := k4'.cells
  simp only [Nat.zero_mul, Nat.add_zero] at k0 k1 k2 k3
  exact ⟨rfl, b, off, p1, n1, m1, p2, n2, m2, p3, n3, m3, rfl, k0, k1, k2, k3, k4', by simpa using h1, h2⟩

set_option maxRecDepth 100000 in
set_option maxHeartbeats 2000000 in
theorem ro_wrap (G : RG) (hM : RM G) (n : Nat) (ih : ROf G n) (X : Nat → Prop) (z w : World) (d1 d2 : Nat) (wt x : Sh) (vw vr : Value) (hd : d1 + d2 ≤ n) (h1 : d1 ≤ 5) (h2 : d2 ≤ 5) (hpw : partOk d1 wt = true) (hpr : partOk d2 x = true) (hw : IsSh z wt vw) (hr : IsSh z (.mk 5 [] [] [x]) vr) (he : EnvR X z w) (hne : ¬ wt.kd = 5) :
    Calls Tryz.prog 36 #[vw, vr] w (MadeG G X (fun u => fitB wt u = true) (rdB (n + 1) wt (.mk 5 [] [] [x])) (wnB (n + 1) wt (.mk 5 [] [] [x])) w) := by
  have HWv := Lib.hid hw
  obtain ⟨p1, n1, m1, p2, n2, m2, p3, n3, m3, rfl⟩ := hw.agg
  obtain ⟨q1, j1, q2, j2, q3, j3, rfl, _, _, s2, s3⟩ := hr.open
  obtain ⟨_, b, off, t1, u1, y1, t2, u2, y2, t3, u3, y3, rfl, k0, k1, k2, k3, k4, hm1, hm2⟩ := one_at s3
  obtain ⟨k, hk⟩ : ∃ k, k = wt.kd := ⟨_, rfl⟩
  rw [← hk] at hne HWv ⊢
  have HKd := Lib.hid hk
  have K4 := Lib.hid k4
  have HN := three_new w (.cells #[.int .i64 k, .slice p1 n1 m1, .slice p2 n2 m2, .slice p3 n3 m3] 26) (.cells #[.int .i64 5, .slice q1 0 j1, .slice q2 0 j2, .slice (some ⟨b, off, none⟩) 1 j3] 26) (.cells #[.nilFunc, .nilFunc] 67)
  obtain ⟨W, hW⟩ : ∃ W, W = ((w.alloc (.cells #[.int .i64 k, .slice p1 n1 m1, .slice p2 n2 m2, .slice p3 n3 m3] 26)).alloc (.cells #[.int .i64 5, .slice q1 0 j1, .slice q2 0 j2, .slice (some ⟨b, off, none⟩) 1 j3] 26)).alloc (.cells #[.nilFunc, .nilFunc] 67) := ⟨_, rfl⟩
  have hbw : Below w.heap.size w W := by rw [hW]; exact ((below_alloc w _).alloc (by simp) _).alloc (by simp; omega) _
  have hz : W.heap.size = w.heap.size + 1 + 1 + 1 := by rw [hW]; simp
  rw [← hW] at HN
  have HZ := Lib.hid hz
  have EW : Hid (EnvR (withX X (w.heap.size + 1 + 1)) z W) := he.with hbw (by omega) (by omega)
  have HKp := Keeps.of_below EW.out.below
  have e0 := HKp _ _ _ k0
  have e1 := HKp _ _ _ k1
  have e2 := HKp _ _ _ k2
  have e3 := HKp _ _ _ k3
  have bz : b < w.heap.size := Nat.lt_of_lt_of_le (World.block_lt_of_cell? z ⟨b, off, none⟩ k0) he.below.size
  obtain ⟨x0, x1, x2, x3, _, _, _, _, xz⟩ := blk4 HN.1
  obtain ⟨y0, y1', y2', y3', _, _, _, _, yz⟩ := blk4 HN.2.1
  have N3 := Lib.hid HN.2.2
  have BW := Lib.hid hbw
  have HW := Lib.hid hW
  have HPw := Lib.hid hpw
  have HPr := Lib.hid hpr
  have IH := Lib.hid ih
  have HSK : Hid (∀ w', Below (w.heap.size + 1 + 1) W w' → (w'.cell? ⟨w.heap.size, 0, none⟩ = some (.int .i64 k) ∧ w'.cell? ⟨w.heap.size, 1, none⟩ = some (.slice p1 n1 m1) ∧ w'.cell? ⟨w.heap.size, 2, none⟩ = some (.slice p2 n2 m2) ∧ w'.cell? ⟨w.heap.size, 3, none⟩ = some (.slice p3 n3 m3) ∧ w'.cell? ⟨w.heap.size + 1, 3, none⟩ = some (.slice (some ⟨b, off, none⟩) 1 j3) ∧
      w'.cell? ⟨b, off, none⟩ = some (.int .i64 x.kd) ∧ w'.cell? ⟨b, off + 1, none⟩ = some (.slice t1 u1 y1) ∧ w'.cell? ⟨b, off + 2, none⟩ = some (.slice t2 u2 y2) ∧ w'.cell? ⟨b, off + 3, none⟩ = some (.slice t3 u3 y3))) := fun w' hb => by
    have k : ∀ b o c, b < w.heap.size + 1 + 1 → W.cell? ⟨b, o, none⟩ = some c → w'.cell? ⟨b, o, none⟩ = some c := fun b o c hlt hc => by rw [hb.cell (p := ⟨b, o, none⟩) hlt]; exact hc
    exact ⟨k _ _ _ (by omega) x0, k _ _ _ (by omega) x1, k _ _ _ (by omega) x2, k _ _ _ (by omega) x3, k _ _ _ (by omega) y3', k _ _ _ (by omega) e0, k _ _ _ (by omega) e1, k _ _ _ (by omega) e2, k _ _ _ (by omega) e3⟩
  clear HN hbw hz hW hw hr he s2 s3 k0 k1 k2 k3 k4 hk HKp hpw hpr ih x0 x1 x2 x3 xz y0 y1' y2' y3' yz e0 e1 e2 e3 bz
  go_enter Tryz.func36, Tryz.ntmps36
  go_upto_region 2 with fail
  rw [← HW.out]
  go_region_held3 (fun w' => w'.cell? ⟨w.heap.size, 0, none⟩ = some (.int .i64 k) ∧ w'.cell? ⟨w.heap.size, 1, none⟩ = some (.slice p1 n1 m1) ∧ w'.cell? ⟨w.heap.size, 2, none⟩ = some (.slice p2 n2 m2) ∧ w'.cell? ⟨w.heap.size, 3, none⟩ = some (.slice p3 n3 m3) ∧ w'.cell? ⟨w.heap.size + 1, 3, none⟩ = some (.slice (some ⟨b, off, none⟩) 1 j3) ∧
      w'.cell? ⟨b, off, none⟩ = some (.int .i64 x.kd) ∧ w'.cell? ⟨b, off + 1, none⟩ = some (.slice t1 u1 y1) ∧ w'.cell? ⟨b, off + 2, none⟩ = some (.slice t2 u2 y2) ∧ w'.cell? ⟨b, off + 3, none⟩ = some (.slice t3 u3 y3))
    (first
      | exact HSK.out _ (Below.refl _ W).drew
      | exact HSK.out _ BB1.out
      | exact HSK.out _ BB2.out
      | exact HSK.out _ ((BB2.out.setCell (p := ⟨w.heap.size + 1 + 1, 0, none⟩) (Nat.le_refl _) _).setCell (p := ⟨w.heap.size + 1 + 1, 1, none⟩) (Nat.le_refl _) _))
    (first
      | (go_at_call 36; refine (IH.out (withX X (w.heap.size + 1 + 1)) z W.drew d1 d2 wt x _ _ hd h1 h2 HPw.out HPr.out HWv.out K4.out (EW.out.step (Below.refl _ W).drew)).mono ?_; rintro e w1 ⟨f1, g1, f2, g2, rfl, hG1, hb1⟩; have G1 := Lib.hid hG1; have B1 := Lib.hid (show Below W.heap.size W w1 from (Below.refl _ W).drew.trans hb1); have BB1 := Lib.hid (B1.out.mono (show w.heap.size + 1 + 1 ≤ W.heap.size by have := HZ.out; omega)); clear hG1 hb1)
      | (go_at_call 63; refine (wrap_raw f1 f2 g1 g2 w1).mono ?_; rintro e w2 ⟨rfl, hn2, hb2⟩; have N2 := Lib.hid hn2; have B2 := Lib.hid hb2; have BB2 := Lib.hid (BB1.out.trans (hb2.mono (Nat.le_trans (show w.heap.size + 1 + 1 ≤ W.heap.size by have := HZ.out; omega) B1.out.size))); have B12 := Lib.hid (B1.out.trans (hb2.mono B1.out.size)); obtain ⟨_, _, _, _, _⟩ := blk2r (blk_below (w := W) N3.out B12.out (by have := HZ.out; omega)); clear hn2 hb2))
  all_goals
    have E1 := EW.out.step B1.out
    have hG2 := hM.wrap N2.out (E1.ne (Nat.le_refl _)) (hM.move G1.out (Still.of_below B2.out) fun _ hg => .inl hg)
    have G2 := Lib.hid hG2
    obtain ⟨r0, r1, _, _, rz⟩ := blk2r (blk_below (w := W) N3.out B12.out (by have := HZ.out; omega))
    clear E1 hG2
    go_wp2_with fail
    refine bodyPost_ret (v := .agg #[fnv 80 #[.pointer (some ⟨w1.heap.size, 0, none⟩)], fnv f2 g2]) (by simp [results, Tryz.results36, go_sem, r0, r1]) rfl ?_
    exact made_endR hM (hM.same G2.out (fun _ h => h) (fun u _ => rd_wrap (r := .mk 5 [] [] [x]) rfl (HKd.out ▸ hne) u) (wn_wrap (r := .mk 5 [] [] [x]) rfl (HKd.out ▸ hne))) (BW.out.trans (B12.out.mono BW.out.size)) (by omega) _ _
theorem fit_maybe {sy na : List ByteArray} {x : Sh} {u : Va} (h : fitB (.mk 5 sy na [x]) u = true) : u.it.length ≤ 1 ∧ ∀ y ∈ u.it, fitB x y = true := by
  cases u with | mk k n t it =>
  unfold fitB at h
  rw [if_neg (by decide), if_neg (by decide), if_neg (by decide), if_neg (by decide), if_pos rfl] at h
  simp only [Bool.and_eq_true, decide_eq_true_eq, List.all_eq_true] at h
  exact ⟨h.2.2.1, fun y hy => by have := h.2.2.2 y hy; simpa only [fitOne] using this⟩
theorem fit_list {sy na : List ByteArray} {x : Sh} {u : Va} (h : fitB (.mk 6 sy na [x]) u = true) : u.it.length ≤ 6 ∧ ∀ y ∈ u.it, fitB x y = true := by
  cases u with | mk k n t it =>
  unfold fitB at h
  rw [if_neg (by decide), if_neg (by decide), if_neg (by decide), if_neg (by decide), if_neg (by decide), if_pos rfl] at h
  simp only [Bool.and_eq_true, decide_eq_true_eq, List.all_eq_true] at h
  exact ⟨h.2.2.1, fun y hy => by have := h.2.2.2 y hy; simpa only [fitOne] using this⟩

set_option maxRecDepth 100000 in
set_option maxHeartbeats 2000000 in
theorem ro_unwrap (G : RG) (hM : RM G) (n : Nat) (ih : ROf G n) (X : Nat → Prop) (z w : World) (d1 d2 : Nat) (rt x : Sh) (vw vr : Value) (hd : d1 + d2 ≤ n) (h1 : d1 ≤ 5) (h2 : d2 ≤ 5) (hpw : partOk d1 x = true) (hpr : partOk d2 rt = true) (hw : IsSh z (.mk 5 [] [] [x]) vw) (hr : IsSh z rt vr) (he : EnvR X z w) (hne : ¬ rt.kd = 5) :
    Calls Tryz.prog 36 #[vw, vr] w (MadeG G X (fun u => fitB (.mk 5 [] [] [x]) u = true) (rdB (n + 1) (.mk 5 [] [] [x]) rt) (wnB (n + 1) (.mk 5 [] [] [x]) rt) w) := by
  have HWv := Lib.hid hr
  obtain ⟨p1, n1, m1, p2, n2, m2, p3, n3, m3, rfl⟩ := hr.agg
  obtain ⟨q1, j1, q2, j2, q3, j3, rfl, _, _, s2, s3⟩ := hw.open
  obtain ⟨_, b, off, t1, u1, y1, t2, u2, y2, t3, u3, y3, rfl, k0, k1, k2, k3, k4, hm1, hm2⟩ := one_at s3
  obtain ⟨k, hk⟩ : ∃ k, k = rt.kd := ⟨_, rfl⟩
  rw [← hk] at hne HWv ⊢
  have HKd := Lib.hid hk
  have K4 := Lib.hid k4
  have HN := three_new w (.cells #[.int .i64 5, .slice q1 0 j1, .slice q2 0 j2, .slice (some ⟨b, off, none⟩) 1 j3] 26) (.cells #[.int .i64 k, .slice p1 n1 m1, .slice p2 n2 m2, .slice p3 n3 m3] 26) (.cells #[.nilFunc, .nilFunc] 67)
  obtain ⟨W, hW⟩ : ∃ W, W = ((w.alloc (.cells #[.int .i64 5, .slice q1 0 j1, .slice q2 0 j2, .slice (some ⟨b, off, none⟩) 1 j3] 26)).alloc (.cells #[.int .i64 k, .slice p1 n1 m1, .slice p2 n2 m2, .slice p3 n3 m3] 26)).alloc (.cells #[.nilFunc, .nilFunc] 67) := ⟨_, rfl⟩
  have hbw : Below w.heap.size w W := by rw [hW]; exact ((below_alloc w _).alloc (by simp) _).alloc (by simp; omega) _
  have hz : W.heap.size = w.heap.size + 1 + 1 + 1 := by rw [hW]; simp
  rw [← hW] at HN
  have HZ := Lib.hid hz
  have EW : Hid (EnvR (withX X (w.heap.size + 1 + 1)) z W) := he.with hbw (by omega) (by omega)
  have HKp := Keeps.of_below EW.out.below
  have e0 := HKp _ _ _ k0
  have e1 := HKp _ _ _ k1
  have e2 := HKp _ _ _ k2
  have e3 := HKp _ _ _ k3
  have bz : b < w.heap.size := Nat.lt_of_lt_of_le (World.block_lt_of_cell? z ⟨b, off, none⟩ k0) he.below.size
  obtain ⟨x0, x1, x2, x3, _, _, _, _, xz⟩ := blk4 HN.1
  obtain ⟨y0, y1', y2', y3', _, _, _, _, yz⟩ := blk4 HN.2.1
  have N3 := Lib.hid HN.2.2
  have BW := Lib.hid hbw
  have HW := Lib.hid hW
  have HPw := Lib.hid hpw
  have HPr := Lib.hid hpr
  have IH := Lib.hid ih
  have HSK : Hid (∀ w', Below (w.heap.size + 1 + 1) W w' → (w'.cell? ⟨w.heap.size + 1, 0, none⟩ = some (.int .i64 k) ∧ w'.cell? ⟨w.heap.size + 1, 1, none⟩ = some (.slice p1 n1 m1) ∧ w'.cell? ⟨w.heap.size + 1, 2, none⟩ = some (.slice p2 n2 m2) ∧ w'.cell? ⟨w.heap.size + 1, 3, none⟩ = some (.slice p3 n3 m3) ∧ w'.cell? ⟨w.heap.size, 3, none⟩ = some (.slice (some ⟨b, off, none⟩) 1 j3) ∧
      w'.cell? ⟨b, off, none⟩ = some (.int .i64 x.kd) ∧ w'.cell? ⟨b, off + 1, none⟩ = some (.slice t1 u1 y1) ∧ w'.cell? ⟨b, off + 2, none⟩ = some (.slice t2 u2 y2) ∧ w'.cell? ⟨b, off + 3, none⟩ = some (.slice t3 u3 y3))) := fun w' hb => by
    have k : ∀ b o c, b < w.heap.size + 1 + 1 → W.cell? ⟨b, o, none⟩ = some c → w'.cell? ⟨b, o, none⟩ = some c := fun b o c hlt hc => by rw [hb.cell (p := ⟨b, o, none⟩) hlt]; exact hc
    exact ⟨k _ _ _ (by omega) y0, k _ _ _ (by omega) y1', k _ _ _ (by omega) y2', k _ _ _ (by omega) y3', k _ _ _ (by omega) x3, k _ _ _ (by omega) e0, k _ _ _ (by omega) e1, k _ _ _ (by omega) e2, k _ _ _ (by omega) e3⟩
  clear HN hbw hz hW hw hr he s2 s3 k0 k1 k2 k3 k4 hk HKp hpw hpr ih x0 x1 x2 x3 xz y0 y1' y2' y3' yz e0 e1 e2 e3 bz
  go_enter Tryz.func36, Tryz.ntmps36
  go_upto_region 4 with fail
  rw [← HW.out]
  go_region_held3 (fun w' => w'.cell? ⟨w.heap.size + 1, 0, none⟩ = some (.int .i64 k) ∧ w'.cell? ⟨w.heap.size + 1, 1, none⟩ = some (.slice p1 n1 m1) ∧ w'.cell? ⟨w.heap.size + 1, 2, none⟩ = some (.slice p2 n2 m2) ∧ w'.cell? ⟨w.heap.size + 1, 3, none⟩ = some (.slice p3 n3 m3) ∧ w'.cell? ⟨w.heap.size, 3, none⟩ = some (.slice (some ⟨b, off, none⟩) 1 j3) ∧
      w'.cell? ⟨b, off, none⟩ = some (.int .i64 x.kd) ∧ w'.cell? ⟨b, off + 1, none⟩ = some (.slice t1 u1 y1) ∧ w'.cell? ⟨b, off + 2, none⟩ = some (.slice t2 u2 y2) ∧ w'.cell? ⟨b, off + 3, none⟩ = some (.slice t3 u3 y3))
    (first
      | exact HSK.out _ (Below.refl _ W).drew
      | exact HSK.out _ BB1.out
      | exact HSK.out _ BB2.out
      | exact HSK.out _ ((BB2.out.setCell (p := ⟨w.heap.size + 1 + 1, 0, none⟩) (Nat.le_refl _) _).setCell (p := ⟨w.heap.size + 1 + 1, 1, none⟩) (Nat.le_refl _) _))
    (first
      | (go_at_call 36; refine (IH.out (withX X (w.heap.size + 1 + 1)) z W.drew d1 d2 x rt _ _ hd h1 h2 HPw.out HPr.out K4.out HWv.out (EW.out.step (Below.refl _ W).drew)).mono ?_; rintro e w1 ⟨f1, g1, f2, g2, rfl, hG1, hb1⟩; have G1 := Lib.hid hG1; have B1 := Lib.hid (show Below W.heap.size W w1 from (Below.refl _ W).drew.trans hb1); have BB1 := Lib.hid (B1.out.mono (show w.heap.size + 1 + 1 ≤ W.heap.size by have := HZ.out; omega)); clear hG1 hb1)
      | (go_at_call 64; refine (unwrap_raw f1 f2 g1 g2 w1).mono ?_; rintro e w2 ⟨rfl, hn2, hb2⟩; have N2 := Lib.hid hn2; have B2 := Lib.hid hb2; have BB2 := Lib.hid (BB1.out.trans (hb2.mono (Nat.le_trans (show w.heap.size + 1 + 1 ≤ W.heap.size by have := HZ.out; omega) B1.out.size))); have B12 := Lib.hid (B1.out.trans (hb2.mono B1.out.size)); obtain ⟨_, _, _, _, _⟩ := blk2r (blk_below (w := W) N3.out B12.out (by have := HZ.out; omega)); clear hn2 hb2))
  all_goals
    have E1 := EW.out.step B1.out
    have hG2 := hM.unwrap N2.out (E1.ne (Nat.le_refl _)) (hM.move G1.out (Still.of_below B2.out) fun _ hg => .inl hg)
    have G2 := Lib.hid hG2
    obtain ⟨r0, r1, _, _, rz⟩ := blk2r (blk_below (w := W) N3.out B12.out (by have := HZ.out; omega))
    clear E1 hG2
    go_wp2_with fail
    refine bodyPost_ret (v := .agg #[fnv 83 #[.pointer (some ⟨w1.heap.size, 0, none⟩)], fnv 84 #[]]) (by simp [results, Tryz.results36, go_sem, r0, r1]) rfl ?_
    exact made_endR hM (hM.same G2.out (fun u h => fit_maybe h) (fun u _ => rd_unwrap (w := .mk 5 [] [] [x]) rfl (HKd.out ▸ hne) u) (wn_unwrap (w := .mk 5 [] [] [x]) rfl (HKd.out ▸ hne))) (BW.out.trans (B12.out.mono BW.out.size)) (by omega) _ _
end Go.Proofs.YtnnjhcjalmdmcaaGreat
