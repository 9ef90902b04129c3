/- Walks: spec.l05Witness, but for words and records. -/
import Derived.Test.YtbpidhlpakobiaaGRm4W
namespace Go.Proofs.Ytbpidhlpakobiaa
open Go.RowKit

/-- spec.l05Witness's contract at right shapes of so many levels together. -/
def SwAt (n : Nat) : Prop := ∀ (d1 d2 : Nat) (wt rt : Sh) (x : Va) (vw vr : Value) (w : World), d1 + d2 ≤ n → d1 ≤ 5 → d2 ≤ 5 → partOk d1 wt = true → partOk d2 rt = true → IsSh w wt vw → IsSh w rt vr → wnB n wt rt = some x →
  Calls Try.prog 26 #[vw, vr] w (ToVPost x w)

set_option maxRecDepth 100000 in
set_option maxHeartbeats 1000000 in
theorem sw_wrap (n : Nat) (ih : SwAt n) (w : World) (d1 d2 : Nat) (wt x : Sh) (y : Va) (vw vr : Value) (hd : d1 + d2 ≤ n) (h1 : d1 ≤ 5) (h2 : d2 ≤ 5) (hpw : partOk d1 wt = true) (hpr : partOk d2 x = true) (hw : IsSh w wt vw) (hr : IsSh w (.mk 5 [] [] [x]) vr) (hne : ¬ wt.kd = 5) (hx : wnB (n + 1) wt (.mk 5 [] [] [x]) = some y) :
    Calls Try.prog 26 #[vw, vr] w (ToVPost y w) := by
  have HWv := Lib.hid hw
  have HU : Hid (wnB n wt x = some y) := (wn_wrap (n := n) (w := wt) (r := .mk 5 [] [] [x]) rfl hne).symm.trans hx
  obtain ⟨p1, n1, m1, p2, n2, m2, p3, n3, m3, rfl⟩ := hw.agg
  obtain ⟨q1, j1, q2, j2, q3, j3, rfl, _, _, _, s3⟩ := hr.open
  obtain ⟨_, b, off, t1, u1, y1, t2, u2, y2, t3, u3, y3, rfl, k0, k1, k2, k3, k4, hm1, hm2⟩ := one_at s3
  obtain ⟨k, hk⟩ : ∃ k, k = wt.kd := ⟨_, rfl⟩
  rw [← hk] at hne HWv ⊢
  have K4 := Lib.hid k4
  have HN := three_new w (.cells #[.int .i64 k, .slice p1 n1 m1, .slice p2 n2 m2, .slice p3 n3 m3] 30) (.cells #[.int .i64 5, .slice q1 0 j1, .slice q2 0 j2, .slice (some ⟨b, off, none⟩) 1 j3] 30) (.cells #[.int .i64 0, .int .i64 0, .string ⟨#[]⟩, .slice none 0 0] 35)
  obtain ⟨W0, hW0⟩ : ∃ W0, W0 = ((w.alloc (.cells #[.int .i64 k, .slice p1 n1 m1, .slice p2 n2 m2, .slice p3 n3 m3] 30)).alloc (.cells #[.int .i64 5, .slice q1 0 j1, .slice q2 0 j2, .slice (some ⟨b, off, none⟩) 1 j3] 30)).alloc (.cells #[.int .i64 0, .int .i64 0, .string ⟨#[]⟩, .slice none 0 0] 35) := ⟨_, rfl⟩
  have hb0 : Below w.heap.size w W0 := by rw [hW0]; exact ((below_alloc w _).alloc (by simp) _).alloc (by simp; omega) _
  have hz0 : W0.heap.size = w.heap.size + 1 + 1 + 1 := by rw [hW0]; simp
  rw [← hW0] at HN
  obtain ⟨W, hW⟩ : ∃ W, W = W0.alloc (.cells #[.int .i64 k, .int .i64 0, .string ⟨#[]⟩, .slice none 0 0] 35) := ⟨_, rfl⟩
  have hbW : Below W0.heap.size W0 W := by rw [hW]; exact below_alloc _ _
  have N1 := Lib.hid (blk_below HN.1 hbW (by omega))
  have N2 := Lib.hid (blk_below HN.2.1 hbW (by omega))
  have N3 := Lib.hid (blk_below HN.2.2 hbW (by omega))
  have N4 : Hid (W.heap[w.heap.size + 1 + 1 + 1]? = some (.cells #[.int .i64 k, .int .i64 0, .string ⟨#[]⟩, .slice none 0 0] 35 (0, 0))) := by show _ = _; rw [hW, ← hz0]; exact Go.Deep.blk_alloc_new _ _
  have hbw := hb0.trans (hbW.mono hb0.size)
  have BW := Lib.hid hbw
  have hz : W.heap.size = w.heap.size + 1 + 1 + 1 + 1 := by rw [hW]; simp; omega
  have HZ := Lib.hid hz
  have HW : Hid (W = (((w.alloc (.cells #[.int .i64 k, .slice p1 n1 m1, .slice p2 n2 m2, .slice p3 n3 m3] 30)).alloc (.cells #[.int .i64 5, .slice q1 0 j1, .slice q2 0 j2, .slice (some ⟨b, off, none⟩) 1 j3] 30)).alloc (.cells #[.int .i64 0, .int .i64 0, .string ⟨#[]⟩, .slice none 0 0] 35)).alloc (.cells #[.int .i64 k, .int .i64 0, .string ⟨#[]⟩, .slice none 0 0] 35)) := by show _ = _; rw [hW, hW0]
  obtain ⟨x0, x1, x2, x3, _, _, _, _, xz⟩ := blk4 N1.out
  obtain ⟨y0, y1', y2', y3', _, _, _, _, yz⟩ := blk4 N2.out
  have HKp := Keeps.of_below hbw
  have e0 := HKp _ _ _ k0
  have e1 := HKp _ _ _ k1
  have e2 := HKp _ _ _ k2
  have e3 := HKp _ _ _ k3
  have bz : b < w.heap.size := World.block_lt_of_cell? w ⟨b, off, none⟩ k0
  have HPw := Lib.hid hpw
  have HPr := Lib.hid hpr
  have IH := Lib.hid ih
  have HSK : Hid (∀ w', Below (w.heap.size + 1 + 1) W w' → (w'.cell? ⟨w.heap.size, 0, none⟩ = some (.int .i64 k) ∧ w'.cell? ⟨w.heap.size, 1, none⟩ = some (.slice p1 n1 m1) ∧ w'.cell? ⟨w.heap.size, 2, none⟩ = some (.slice p2 n2 m2) ∧ w'.cell? ⟨w.heap.size, 3, none⟩ = some (.slice p3 n3 m3) ∧ w'.cell? ⟨w.heap.size + 1, 3, none⟩ = some (.slice (some ⟨b, off, none⟩) 1 j3) ∧ w'.cell? ⟨b, off, none⟩ = some (.int .i64 x.kd) ∧ w'.cell? ⟨b, off + 1, none⟩ = some (.slice t1 u1 y1) ∧ w'.cell? ⟨b, off + 2, none⟩ = some (.slice t2 u2 y2) ∧ w'.cell? ⟨b, off + 3, none⟩ = some (.slice t3 u3 y3))) := fun w' hb => by
    have k : ∀ b o c, b < w.heap.size + 1 + 1 → W.cell? ⟨b, o, none⟩ = some c → w'.cell? ⟨b, o, none⟩ = some c := fun b o c hlt hc => by rw [hb.cell (p := ⟨b, o, none⟩) hlt]; exact hc
    exact ⟨k _ _ _ (by omega) x0, k _ _ _ (by omega) x1, k _ _ _ (by omega) x2, k _ _ _ (by omega) x3, k _ _ _ (by omega) y3', k _ _ _ (by omega) e0, k _ _ _ (by omega) e1, k _ _ _ (by omega) e2, k _ _ _ (by omega) e3⟩
  clear HN hbw hz hW hW0 hb0 hbW hz0 hw hr s3 k0 k1 k2 k3 k4 hk HKp hpw hpr ih x0 x1 x2 x3 xz y0 y1' y2' y3' yz e0 e1 e2 e3 bz hx
  go_enter Try.func26, Try.ntmps26
  go_upto_region 3 with fail
  rw [← HW.out]
  go_region_held3 (fun w' => w'.cell? ⟨w.heap.size, 0, none⟩ = some (.int .i64 k) ∧ w'.cell? ⟨w.heap.size, 1, none⟩ = some (.slice p1 n1 m1) ∧ w'.cell? ⟨w.heap.size, 2, none⟩ = some (.slice p2 n2 m2) ∧ w'.cell? ⟨w.heap.size, 3, none⟩ = some (.slice p3 n3 m3) ∧ w'.cell? ⟨w.heap.size + 1, 3, none⟩ = some (.slice (some ⟨b, off, none⟩) 1 j3) ∧ w'.cell? ⟨b, off, none⟩ = some (.int .i64 x.kd) ∧ w'.cell? ⟨b, off + 1, none⟩ = some (.slice t1 u1 y1) ∧ w'.cell? ⟨b, off + 2, none⟩ = some (.slice t2 u2 y2) ∧ w'.cell? ⟨b, off + 3, none⟩ = some (.slice t3 u3 y3))
    (first
      | exact HSK.out _ (Below.refl _ W).drew
      | exact HSK.out _ BB1.out
      | exact HSK.out _ ((((BB1.out.setCell (p := ⟨w.heap.size + 1 + 1, 0, none⟩) (Nat.le_refl _) _).setCell (p := ⟨w.heap.size + 1 + 1, 1, none⟩) (Nat.le_refl _) _).setCell (p := ⟨w.heap.size + 1 + 1, 2, none⟩) (Nat.le_refl _) _).setCell (p := ⟨w.heap.size + 1 + 1, 3, none⟩) (Nat.le_refl _) _))
    (first
      | (go_at_call 26; refine (IH.out d1 d2 wt x y _ _ W.drew hd h1 h2 HPw.out HPr.out (IsSh.keep (Keeps.of_below BW.out.drew) _ _ HWv.out) (IsSh.keep (Keeps.of_below BW.out.drew) _ _ K4.out) HU.out).mono ?_; rintro e w1 ⟨d0, d1', d2', d3, F, rfl, ho1, hn1, hb1⟩; obtain ⟨r3, z3, rfl, rfl, rfl, rfl⟩ := (OwnVa.is _ _ _ ho1).cells; have HO := Lib.hid (show OwnVa w1 W.heap.size _ _ F from ho1); have HNd := Lib.hid hn1; have B1 := Lib.hid (show Below W.heap.size W w1 from (Below.refl _ W).drew.trans hb1); have BB1 := Lib.hid (B1.out.mono (show w.heap.size + 1 + 1 ≤ W.heap.size by have := HZ.out; omega)); obtain ⟨_, _, _, _, _, _, _, _, _⟩ := blk4 (blk_below (w := W) N3.out B1.out (by have := HZ.out; omega)); clear ho1 hn1 hb1))
  all_goals
    obtain ⟨r0, r1, r2, rr3, _, _, _, _, rz⟩ := blk4 (blk_below (w := W) N3.out B1.out (by have := HZ.out; omega))
    have lt := OwnVa.blocks _ _ _ HO.out
    have hz := HZ.out
    have lt' : ∀ g ∈ F, W.heap.size ≤ g := fun g hg => (lt g hg).1
    have HF : Hid (∀ g ∈ F, g ≠ w.heap.size + 1 + 1) := fun g hg => by have := lt' g hg; omega
    clear lt lt'
    go_wp2_with fail
    refine bodyPost_ret (v := .agg #[.int .i64 y.kd, .int .i64 y.nn, .string y.tx, .slice r3 y.it.length z3]) (by simp [results, Try.results26, go_sem, r0, r1, r2, rr3]) rfl ?_
    exact va_end (BW.out.trans (B1.out.mono BW.out.size)) (by omega) (OwnVa.move (show w.heap.size ≤ W.heap.size by omega) _ _ _ (fun _ _ => rfl) HO.out) HF.out HNd.out

set_option maxRecDepth 100000 in
set_option maxHeartbeats 1000000 in
theorem sw_unwrap (n : Nat) (w : World) (wt rt : Sh) (y : Va) (vw vr : Value) (hw : IsSh w wt vw) (hr : IsSh w rt vr) (hk5 : wt.kd = 5) (hne2 : ¬ rt.kd = 5) (hx : wnB (n + 1) wt rt = some y) :
    Calls Try.prog 26 #[vw, vr] w (ToVPost y w) := by
  have HU : Hid (.mk 5 0 ⟨#[]⟩ [] = y) := Option.some.inj ((wn_unwrap hk5 hne2).symm.trans hx)
  obtain ⟨p1, n1, m1, p2, n2, m2, p3, n3, m3, rfl⟩ := hw.agg
  obtain ⟨q1, i1, j1, q2, i2, j2, q3, i3, j3, rfl⟩ := hr.agg
  obtain ⟨k', hk'⟩ : ∃ k, k = rt.kd := ⟨_, rfl⟩
  rw [← hk'] at hne2 ⊢
  rw [hk5]
  have HN := three_new w (.cells #[.int .i64 5, .slice p1 n1 m1, .slice p2 n2 m2, .slice p3 n3 m3] 30) (.cells #[.int .i64 k', .slice q1 i1 j1, .slice q2 i2 j2, .slice q3 i3 j3] 30) (.cells #[.int .i64 0, .int .i64 0, .string ⟨#[]⟩, .slice none 0 0] 35)
  obtain ⟨W0, hW0⟩ : ∃ W0, W0 = ((w.alloc (.cells #[.int .i64 5, .slice p1 n1 m1, .slice p2 n2 m2, .slice p3 n3 m3] 30)).alloc (.cells #[.int .i64 k', .slice q1 i1 j1, .slice q2 i2 j2, .slice q3 i3 j3] 30)).alloc (.cells #[.int .i64 0, .int .i64 0, .string ⟨#[]⟩, .slice none 0 0] 35) := ⟨_, rfl⟩
  have hb0 : Below w.heap.size w W0 := by rw [hW0]; exact ((below_alloc w _).alloc (by simp) _).alloc (by simp; omega) _
  have hz0 : W0.heap.size = w.heap.size + 1 + 1 + 1 := by rw [hW0]; simp
  rw [← hW0] at HN
  obtain ⟨W, hW⟩ : ∃ W, W = W0.alloc (.cells #[.int .i64 5, .int .i64 0, .string ⟨#[]⟩, .slice none 0 0] 35) := ⟨_, rfl⟩
  have hbW : Below W0.heap.size W0 W := by rw [hW]; exact below_alloc _ _
  have N1 := Lib.hid (blk_below HN.1 hbW (by omega))
  have N2 := Lib.hid (blk_below HN.2.1 hbW (by omega))
  have N3 := Lib.hid (blk_below HN.2.2 hbW (by omega))
  have N4 : Hid (W.heap[w.heap.size + 1 + 1 + 1]? = some (.cells #[.int .i64 5, .int .i64 0, .string ⟨#[]⟩, .slice none 0 0] 35 (0, 0))) := by show _ = _; rw [hW, ← hz0]; exact Go.Deep.blk_alloc_new _ _
  have hbw := hb0.trans (hbW.mono hb0.size)
  have BW := Lib.hid hbw
  have hz : W.heap.size = w.heap.size + 1 + 1 + 1 + 1 := by rw [hW]; simp; omega
  have HZ := Lib.hid hz
  have HW : Hid (W = (((w.alloc (.cells #[.int .i64 5, .slice p1 n1 m1, .slice p2 n2 m2, .slice p3 n3 m3] 30)).alloc (.cells #[.int .i64 k', .slice q1 i1 j1, .slice q2 i2 j2, .slice q3 i3 j3] 30)).alloc (.cells #[.int .i64 0, .int .i64 0, .string ⟨#[]⟩, .slice none 0 0] 35)).alloc (.cells #[.int .i64 5, .int .i64 0, .string ⟨#[]⟩, .slice none 0 0] 35)) := by show _ = _; rw [hW, hW0]
  obtain ⟨x0, x1, x2, x3, _, _, _, _, xz⟩ := blk4 N1.out
  obtain ⟨y0, y1', y2', y3', _, _, _, _, yz⟩ := blk4 N2.out
  clear HN hbw hz hW hW0 hb0 hbW hz0 hw hr hk' hx
  go_enter Try.func26, Try.ntmps26
  go_wp2_with fail
  refine bodyPost_ret (v := .agg #[.int .i64 5, .int .i64 0, .string ⟨#[]⟩, .slice none 0 0]) (by simp [results, Try.results26, go_sem]) rfl ?_
  rw [← HU.out]
  exact va_at ((((below_alloc w _).alloc (by simp) _).alloc (by simp; omega) _).alloc (by simp; omega) _) (own_leaf (by unfold InI64'; omega) (by unfold InI64'; omega) (by decide)) List.nodup_nil

set_option maxRecDepth 100000 in
set_option maxHeartbeats 1000000 in
theorem sw_other (n : Nat) (w : World) (d1 : Nat) (wt rt : Sh) (y : Va) (vw vr : Value) (h1 : d1 ≤ 5) (hpw : partOk d1 wt = true) (hw : IsSh w wt vw) (hr : IsSh w rt vr) (hne : ¬ wt.kd = 5) (hne2 : ¬ rt.kd = 5) (hne3 : ¬ wt.kd = rt.kd) (hx : wnB (n + 1) wt rt = some y) :
    Calls Try.prog 26 #[vw, vr] w (ToVPost y w) := by
  have HU : Hid (blankB wt = y) := Option.some.inj ((wn_other hne hne2 hne3).symm.trans hx)
  have HWv := Lib.hid hw
  obtain ⟨p1, n1, m1, p2, n2, m2, p3, n3, m3, rfl⟩ := hw.agg
  obtain ⟨q1, i1, j1, q2, i2, j2, q3, i3, j3, rfl⟩ := hr.agg
  obtain ⟨k, hk⟩ : ∃ k, k = wt.kd := ⟨_, rfl⟩
  obtain ⟨k', hk'⟩ : ∃ k, k = rt.kd := ⟨_, rfl⟩
  rw [← hk] at hne hne3 HWv ⊢
  rw [← hk'] at hne2 hne3 ⊢
  have HPw := Lib.hid hpw
  have HN := three_new w (.cells #[.int .i64 k, .slice p1 n1 m1, .slice p2 n2 m2, .slice p3 n3 m3] 30) (.cells #[.int .i64 k', .slice q1 i1 j1, .slice q2 i2 j2, .slice q3 i3 j3] 30) (.cells #[.int .i64 0, .int .i64 0, .string ⟨#[]⟩, .slice none 0 0] 35)
  obtain ⟨W0, hW0⟩ : ∃ W0, W0 = ((w.alloc (.cells #[.int .i64 k, .slice p1 n1 m1, .slice p2 n2 m2, .slice p3 n3 m3] 30)).alloc (.cells #[.int .i64 k', .slice q1 i1 j1, .slice q2 i2 j2, .slice q3 i3 j3] 30)).alloc (.cells #[.int .i64 0, .int .i64 0, .string ⟨#[]⟩, .slice none 0 0] 35) := ⟨_, rfl⟩
  have hb0 : Below w.heap.size w W0 := by rw [hW0]; exact ((below_alloc w _).alloc (by simp) _).alloc (by simp; omega) _
  have hz0 : W0.heap.size = w.heap.size + 1 + 1 + 1 := by rw [hW0]; simp
  rw [← hW0] at HN
  obtain ⟨W, hW⟩ : ∃ W, W = W0.alloc (.cells #[.int .i64 k, .int .i64 0, .string ⟨#[]⟩, .slice none 0 0] 35) := ⟨_, rfl⟩
  have hbW : Below W0.heap.size W0 W := by rw [hW]; exact below_alloc _ _
  have N1 := Lib.hid (blk_below HN.1 hbW (by omega))
  have N2 := Lib.hid (blk_below HN.2.1 hbW (by omega))
  have N3 := Lib.hid (blk_below HN.2.2 hbW (by omega))
  have N4 : Hid (W.heap[w.heap.size + 1 + 1 + 1]? = some (.cells #[.int .i64 k, .int .i64 0, .string ⟨#[]⟩, .slice none 0 0] 35 (0, 0))) := by show _ = _; rw [hW, ← hz0]; exact Go.Deep.blk_alloc_new _ _
  have hbw := hb0.trans (hbW.mono hb0.size)
  have BW := Lib.hid hbw
  have hz : W.heap.size = w.heap.size + 1 + 1 + 1 + 1 := by rw [hW]; simp; omega
  have HZ := Lib.hid hz
  have HW : Hid (W = (((w.alloc (.cells #[.int .i64 k, .slice p1 n1 m1, .slice p2 n2 m2, .slice p3 n3 m3] 30)).alloc (.cells #[.int .i64 k', .slice q1 i1 j1, .slice q2 i2 j2, .slice q3 i3 j3] 30)).alloc (.cells #[.int .i64 0, .int .i64 0, .string ⟨#[]⟩, .slice none 0 0] 35)).alloc (.cells #[.int .i64 k, .int .i64 0, .string ⟨#[]⟩, .slice none 0 0] 35)) := by show _ = _; rw [hW, hW0]
  obtain ⟨x0, x1, x2, x3, _, _, _, _, xz⟩ := blk4 N1.out
  obtain ⟨y0, y1', y2', y3', _, _, _, _, yz⟩ := blk4 N2.out
  clear HN hbw hz hW hW0 hb0 hbW hz0 hw hr hk hk' hx hpw
  go_enter Try.func26, Try.ntmps26
  go_wp2_with fail
  rw [← HW.out]
  refine (bs_any d1 h1 wt _ W HPw.out (IsSh.keep (Keeps.of_below BW.out) _ _ HWv.out)).mono ?_
  rw [HU.out]
  rintro e w1 ⟨d0, d1', d2', d3, F, rfl, ho1, hn1, hb1⟩
  obtain ⟨r3, z3, rfl, rfl, rfl, rfl⟩ := (OwnVa.is _ _ _ ho1).cells
  have HO := Lib.hid ho1
  have HNd := Lib.hid hn1
  have B1 := Lib.hid hb1
  obtain ⟨r0, r1, r2, rr3, _, _, _, _, rz⟩ := blk4 (blk_below (w := W) N3.out hb1 (by have := HZ.out; omega))
  have lt := OwnVa.blocks _ _ _ ho1
  have hz := HZ.out
  have HF : Hid (∀ g ∈ F, g ≠ w.heap.size + 1 + 1) := fun g hg => by have := lt g hg; omega
  clear lt ho1 hn1 hb1 x0 x1 x2 x3 xz y0 y1' y2' y3' yz
  go_wp2_with fail
  refine bodyPost_ret (v := .agg #[.int .i64 y.kd, .int .i64 y.nn, .string y.tx, .slice r3 y.it.length z3]) (by simp [results, Try.results26, go_sem, r0, r1, r2, rr3]) rfl ?_
  exact va_end (BW.out.trans (B1.out.mono BW.out.size)) (by omega) (OwnVa.move (show w.heap.size ≤ W.heap.size by omega) _ _ _ (fun _ _ => rfl) HO.out) HF.out HNd.out

set_option maxRecDepth 100000 in
set_option maxHeartbeats 1000000 in
theorem sw_items5 (n : Nat) (ih : SwAt n) (w : World) (d1 d2 : Nat) (x y : Sh) (u : Va) (vw vr : Value) (hd : d1 + d2 ≤ n) (h1 : d1 ≤ 5) (h2 : d2 ≤ 5) (hpw : partOk d1 x = true) (hpr : partOk d2 y = true) (hw : IsSh w (.mk 5 [] [] [x]) vw) (hr : IsSh w (.mk 5 [] [] [y]) vr) (hx : wnB (n + 1) (.mk 5 [] [] [x]) (.mk 5 [] [] [y]) = some u) :
    Calls Try.prog 26 #[vw, vr] w (ToVPost u w) := by
  have hU := (wn_items (n := n) (k := 5) (w := (.mk 5 [] [] [x])) (r := (.mk 5 [] [] [y])) (by omega) rfl rfl).symm.trans hx
  obtain ⟨v, hv, rfl⟩ : ∃ v, wnB n x y = some v ∧ Va.mk 5 0 ⟨#[]⟩ [v] = u := by simpa [oneOf, Sh.su] using hU
  have HU := Lib.hid hv
  obtain ⟨p1, m1, p2, m2, p3, m3, rfl, _, _, _, s3⟩ := hw.open
  obtain ⟨_, a, aff, a1, v1, z1, a2, v2, z2, a3, v3, z3, rfl, l0, l1, l2, l3, l4, hn1, hn2⟩ := one_at s3
  obtain ⟨q1, j1, q2, j2, q3, j3, rfl, _, _, _, r3⟩ := hr.open
  obtain ⟨_, b, off, t1, u1, y1, t2, u2, y2, t3, u3, y3, rfl, k0, k1, k2, k3, k4, hm1, hm2⟩ := one_at r3
  have K4 := Lib.hid k4
  have L4 := Lib.hid l4
  have HN := three_new w (.cells #[.int .i64 5, .slice p1 0 m1, .slice p2 0 m2, .slice (some ⟨a, aff, none⟩) 1 m3] 30) (.cells #[.int .i64 5, .slice q1 0 j1, .slice q2 0 j2, .slice (some ⟨b, off, none⟩) 1 j3] 30) (.cells #[.int .i64 0, .int .i64 0, .string ⟨#[]⟩, .slice none 0 0] 35)
  obtain ⟨W0, hW0⟩ : ∃ W0, W0 = ((w.alloc (.cells #[.int .i64 5, .slice p1 0 m1, .slice p2 0 m2, .slice (some ⟨a, aff, none⟩) 1 m3] 30)).alloc (.cells #[.int .i64 5, .slice q1 0 j1, .slice q2 0 j2, .slice (some ⟨b, off, none⟩) 1 j3] 30)).alloc (.cells #[.int .i64 0, .int .i64 0, .string ⟨#[]⟩, .slice none 0 0] 35) := ⟨_, rfl⟩
  have hb0 : Below w.heap.size w W0 := by rw [hW0]; exact ((below_alloc w _).alloc (by simp) _).alloc (by simp; omega) _
  have hz0 : W0.heap.size = w.heap.size + 1 + 1 + 1 := by rw [hW0]; simp
  rw [← hW0] at HN
  obtain ⟨W, hW⟩ : ∃ W, W = W0.alloc (.cells #[.int .i64 5, .int .i64 0, .string ⟨#[]⟩, .slice none 0 0] 35) := ⟨_, rfl⟩
  have hbW : Below W0.heap.size W0 W := by rw [hW]; exact below_alloc _ _
  have N1 := Lib.hid (blk_below HN.1 hbW (by omega))
  have N2 := Lib.hid (blk_below HN.2.1 hbW (by omega))
  have N3 := Lib.hid (blk_below HN.2.2 hbW (by omega))
  have N4 : Hid (W.heap[w.heap.size + 1 + 1 + 1]? = some (.cells #[.int .i64 5, .int .i64 0, .string ⟨#[]⟩, .slice none 0 0] 35 (0, 0))) := by show _ = _; rw [hW, ← hz0]; exact Go.Deep.blk_alloc_new _ _
  have hbw := hb0.trans (hbW.mono hb0.size)
  have BW := Lib.hid hbw
  have hz : W.heap.size = w.heap.size + 1 + 1 + 1 + 1 := by rw [hW]; simp; omega
  have HZ := Lib.hid hz
  have HW : Hid (W = (((w.alloc (.cells #[.int .i64 5, .slice p1 0 m1, .slice p2 0 m2, .slice (some ⟨a, aff, none⟩) 1 m3] 30)).alloc (.cells #[.int .i64 5, .slice q1 0 j1, .slice q2 0 j2, .slice (some ⟨b, off, none⟩) 1 j3] 30)).alloc (.cells #[.int .i64 0, .int .i64 0, .string ⟨#[]⟩, .slice none 0 0] 35)).alloc (.cells #[.int .i64 5, .int .i64 0, .string ⟨#[]⟩, .slice none 0 0] 35)) := by show _ = _; rw [hW, hW0]
  obtain ⟨x0, x1, x2, x3, _, _, _, _, xz⟩ := blk4 N1.out
  obtain ⟨y0, y1', y2', y3', _, _, _, _, yz⟩ := blk4 N2.out
  have HKp := Keeps.of_below hbw
  have e0 := HKp _ _ _ k0
  have e1 := HKp _ _ _ k1
  have e2 := HKp _ _ _ k2
  have e3 := HKp _ _ _ k3
  have g0 := HKp _ _ _ l0
  have g1 := HKp _ _ _ l1
  have g2 := HKp _ _ _ l2
  have g3 := HKp _ _ _ l3
  have bz : b < w.heap.size := World.block_lt_of_cell? w ⟨b, off, none⟩ k0
  have az : a < w.heap.size := World.block_lt_of_cell? w ⟨a, aff, none⟩ l0
  have HPw := Lib.hid hpw
  have HPr := Lib.hid hpr
  have IH := Lib.hid ih
  have HSK : Hid (∀ w', Below (w.heap.size + 1 + 1) W w' → (w'.cell? ⟨w.heap.size, 3, none⟩ = some (.slice (some ⟨a, aff, none⟩) 1 m3) ∧ w'.cell? ⟨w.heap.size + 1, 3, none⟩ = some (.slice (some ⟨b, off, none⟩) 1 j3) ∧ w'.cell? ⟨a, aff, none⟩ = some (.int .i64 x.kd) ∧ w'.cell? ⟨a, aff + 1, none⟩ = some (.slice a1 v1 z1) ∧ w'.cell? ⟨a, aff + 2, none⟩ = some (.slice a2 v2 z2) ∧ w'.cell? ⟨a, aff + 3, none⟩ = some (.slice a3 v3 z3) ∧ w'.cell? ⟨b, off, none⟩ = some (.int .i64 y.kd) ∧ w'.cell? ⟨b, off + 1, none⟩ = some (.slice t1 u1 y1) ∧ w'.cell? ⟨b, off + 2, none⟩ = some (.slice t2 u2 y2) ∧ w'.cell? ⟨b, off + 3, none⟩ = some (.slice t3 u3 y3))) := fun w' hb => by
    have k : ∀ b o c, b < w.heap.size + 1 + 1 → W.cell? ⟨b, o, none⟩ = some c → w'.cell? ⟨b, o, none⟩ = some c := fun b o c hlt hc => by rw [hb.cell (p := ⟨b, o, none⟩) hlt]; exact hc
    exact ⟨k _ _ _ (by omega) x3, k _ _ _ (by omega) y3', k _ _ _ (by omega) g0, k _ _ _ (by omega) g1, k _ _ _ (by omega) g2, k _ _ _ (by omega) g3, k _ _ _ (by omega) e0, k _ _ _ (by omega) e1, k _ _ _ (by omega) e2, k _ _ _ (by omega) e3⟩
  clear HN hbw hz hW hW0 hb0 hbW hz0 hw hr s3 r3 k0 k1 k2 k3 k4 l0 l1 l2 l3 l4 HKp hpw hpr ih x0 x1 x2 x3 xz y0 y1' y2' y3' yz e0 e1 e2 e3 g0 g1 g2 g3 bz az hx hU hv
  go_enter Try.func26, Try.ntmps26
  go_upto_region 14 with fail
  rw [← HW.out]
  go_region_held3 (fun w' => w'.cell? ⟨w.heap.size, 3, none⟩ = some (.slice (some ⟨a, aff, none⟩) 1 m3) ∧ w'.cell? ⟨w.heap.size + 1, 3, none⟩ = some (.slice (some ⟨b, off, none⟩) 1 j3) ∧ w'.cell? ⟨a, aff, none⟩ = some (.int .i64 x.kd) ∧ w'.cell? ⟨a, aff + 1, none⟩ = some (.slice a1 v1 z1) ∧ w'.cell? ⟨a, aff + 2, none⟩ = some (.slice a2 v2 z2) ∧ w'.cell? ⟨a, aff + 3, none⟩ = some (.slice a3 v3 z3) ∧ w'.cell? ⟨b, off, none⟩ = some (.int .i64 y.kd) ∧ w'.cell? ⟨b, off + 1, none⟩ = some (.slice t1 u1 y1) ∧ w'.cell? ⟨b, off + 2, none⟩ = some (.slice t2 u2 y2) ∧ w'.cell? ⟨b, off + 3, none⟩ = some (.slice t3 u3 y3))
    (first
      | exact HSK.out _ (Below.refl _ W).drew
      | exact HSK.out _ BB1.out
      | exact HSK.out _ (BB1.out.alloc (by have := HZ.out; have := B1.out.size; omega) _)
      | exact HSK.out _ ((BB1.out.setCell (p := ⟨w.heap.size + 1 + 1 + 1, 3, none⟩) (by show _ ≤ w.heap.size + 1 + 1 + 1; omega) _).alloc (by rw [size_set]; have := HZ.out; have := B1.out.size; omega) _))
    (first
      | (go_at_call 26; refine (IH.out d1 d2 x y v _ _ W.drew hd h1 h2 HPw.out HPr.out (IsSh.keep (Keeps.of_below BW.out.drew) _ _ L4.out) (IsSh.keep (Keeps.of_below BW.out.drew) _ _ K4.out) HU.out).mono ?_; rintro e w1 ⟨d0, d1', d2', d3, F, rfl, ho1, hn1, hb1⟩; obtain ⟨r3, w3, rfl, rfl, rfl, rfl⟩ := (OwnVa.is _ _ _ ho1).cells; have HO := Lib.hid (show OwnVa w1 W.heap.size _ _ F from ho1); have HNd := Lib.hid hn1; have B1 := Lib.hid (show Below W.heap.size W w1 from (Below.refl _ W).drew.trans hb1); have BB1 := Lib.hid (B1.out.mono (show w.heap.size + 1 + 1 ≤ W.heap.size by have := HZ.out; omega)); obtain ⟨_, _, _, _, _, _, _, _, _⟩ := blk4 (blk_below (w := W) N4.out B1.out (by have := HZ.out; omega)); clear ho1 hn1 hb1))
  all_goals
    have hz := HZ.out
    have hs1 := B1.out.size
    have lt := OwnVa.blocks _ _ _ HO.out
    have hv4 := blk_set (blk_below (w := W) N4.out B1.out (by omega)) 3 (.slice (some ⟨w1.heap.size, 0, none⟩) 1 1)
    have hr3 := blk_other (blk_below (w := W) N3.out B1.out (by omega)) (show w.heap.size + 1 + 1 ≠ w.heap.size + 1 + 1 + 1 by omega) (i := 3) (.slice (some ⟨w1.heap.size, 0, none⟩) 1 1)
    obtain ⟨w2, hw2⟩ : ∃ w2, w2 = w1.setCell ⟨w.heap.size + 1 + 1 + 1, 3, none⟩ (.slice (some ⟨w1.heap.size, 0, none⟩) 1 1) := ⟨_, rfl⟩
    have hz2 : w2.heap.size = w1.heap.size := by rw [hw2, size_set]
    have hB2 : Below w.heap.size w w2 := by rw [hw2]; exact (BW.out.trans (B1.out.mono BW.out.size)).setCell (p := ⟨w.heap.size + 1 + 1 + 1, 3, none⟩) (by show _ ≤ w.heap.size + 1 + 1 + 1; omega) _
    have ho2 : OwnVa w2 w.heap.size v (.agg #[.int .i64 v.kd, .int .i64 v.nn, .string v.tx, .slice r3 v.it.length w3]) F := OwnVa.move (by omega) _ _ _ (fun g hg => by rw [hw2]; exact Below.heap_setCell _ _ _ _ (show g ≠ w.heap.size + 1 + 1 + 1 by have := lt g hg; omega)) HO.out
    obtain ⟨ho3, hn3⟩ := own_one (k := 5) (by unfold InI64'; omega) ho2 HNd.out hB2.size
    rw [← hw2] at hv4 hr3
    rw [hz2] at ho3 hn3
    obtain ⟨r0, r1, r2, rr3, _, _, _, _, rz⟩ := blk4 hr3
    obtain ⟨v0, v1', v2', v3', _, _, _, _, vz⟩ := blk4 hv4
    have HO3 := Lib.hid ho3
    have HN3 := Lib.hid hn3
    have HB3 := Lib.hid (hB2.alloc hB2.size (.cells #[.int .i64 v.kd, .int .i64 v.nn, .string v.tx, .slice r3 v.it.length w3] 35))
    have HF : Hid (∀ g ∈ w1.heap.size :: F, g ≠ w.heap.size + 1 + 1) := fun g hg => by
      rcases List.mem_cons.1 hg with rfl | hg
      · omega
      · have := lt g hg; omega
    have HW2 := Lib.hid hw2
    rw [← hw2]
    clear hv4 hr3 hw2 ho2 ho3 hn3 hB2 lt hz2
    go_wp2_with fail
    refine bodyPost_ret (v := .agg #[.int .i64 5, .int .i64 0, .string ⟨#[]⟩, .slice (some ⟨w1.heap.size, 0, none⟩) 1 1]) (by simp [results, Try.results26, go_sem, r0, r1, r2, rr3, rz]) rfl ?_
    have h' := va_end (x := .mk 5 0 ⟨#[]⟩ [v]) (b := w.heap.size + 1 + 1) HB3.out (by omega) HO3.out HF.out HN3.out
    rw [putQ_alloc rz] at h'
    exact h'

set_option maxRecDepth 100000 in
set_option maxHeartbeats 1000000 in
theorem sw_items6 (n : Nat) (ih : SwAt n) (w : World) (d1 d2 : Nat) (x y : Sh) (u : Va) (vw vr : Value) (hd : d1 + d2 ≤ n) (h1 : d1 ≤ 5) (h2 : d2 ≤ 5) (hpw : partOk d1 x = true) (hpr : partOk d2 y = true) (hw : IsSh w (.mk 6 [] [] [x]) vw) (hr : IsSh w (.mk 6 [] [] [y]) vr) (hx : wnB (n + 1) (.mk 6 [] [] [x]) (.mk 6 [] [] [y]) = some u) :
    Calls Try.prog 26 #[vw, vr] w (ToVPost u w) := by
  have hU := (wn_items (n := n) (k := 6) (w := (.mk 6 [] [] [x])) (r := (.mk 6 [] [] [y])) (by omega) rfl rfl).symm.trans hx
  obtain ⟨v, hv, rfl⟩ : ∃ v, wnB n x y = some v ∧ Va.mk 6 0 ⟨#[]⟩ [v] = u := by simpa [oneOf, Sh.su] using hU
  have HU := Lib.hid hv
  obtain ⟨p1, m1, p2, m2, p3, m3, rfl, _, _, _, s3⟩ := hw.open
  obtain ⟨_, a, aff, a1, v1, z1, a2, v2, z2, a3, v3, z3, rfl, l0, l1, l2, l3, l4, hn1, hn2⟩ := one_at s3
  obtain ⟨q1, j1, q2, j2, q3, j3, rfl, _, _, _, r3⟩ := hr.open
  obtain ⟨_, b, off, t1, u1, y1, t2, u2, y2, t3, u3, y3, rfl, k0, k1, k2, k3, k4, hm1, hm2⟩ := one_at r3
  have K4 := Lib.hid k4
  have L4 := Lib.hid l4
  have HN := three_new w (.cells #[.int .i64 6, .slice p1 0 m1, .slice p2 0 m2, .slice (some ⟨a, aff, none⟩) 1 m3] 30) (.cells #[.int .i64 6, .slice q1 0 j1, .slice q2 0 j2, .slice (some ⟨b, off, none⟩) 1 j3] 30) (.cells #[.int .i64 0, .int .i64 0, .string ⟨#[]⟩, .slice none 0 0] 35)
  obtain ⟨W0, hW0⟩ : ∃ W0, W0 = ((w.alloc (.cells #[.int .i64 6, .slice p1 0 m1, .slice p2 0 m2, .slice (some ⟨a, aff, none⟩) 1 m3] 30)).alloc (.cells #[.int .i64 6, .slice q1 0 j1, .slice q2 0 j2, .slice (some ⟨b, off, none⟩) 1 j3] 30)).alloc (.cells #[.int .i64 0, .int .i64 0, .string ⟨#[]⟩, .slice none 0 0] 35) := ⟨_, rfl⟩
  have hb0 : Below w.heap.size w W0 := by rw [hW0]; exact ((below_alloc w _).alloc (by simp) _).alloc (by simp; omega) _
  have hz0 : W0.heap.size = w.heap.size + 1 + 1 + 1 := by rw [hW0]; simp
  rw [← hW0] at HN
  obtain ⟨W, hW⟩ : ∃ W, W = W0.alloc (.cells #[.int .i64 6, .int .i64 0, .string ⟨#[]⟩, .slice none 0 0] 35) := ⟨_, rfl⟩
  have hbW : Below W0.heap.size W0 W := by rw [hW]; exact below_alloc _ _
  have N1 := Lib.hid (blk_below HN.1 hbW (by omega))
  have N2 := Lib.hid (blk_below HN.2.1 hbW (by omega))
  have N3 := Lib.hid (blk_below HN.2.2 hbW (by omega))
  have N4 : Hid (W.heap[w.heap.size + 1 + 1 + 1]? = some (.cells #[.int .i64 6, .int .i64 0, .string ⟨#[]⟩, .slice none 0 0] 35 (0, 0))) := by show _ = _; rw [hW, ← hz0]; exact Go.Deep.blk_alloc_new _ _
  have hbw := hb0.trans (hbW.mono hb0.size)
  have BW := Lib.hid hbw
  have hz : W.heap.size = w.heap.size + 1 + 1 + 1 + 1 := by rw [hW]; simp; omega
  have HZ := Lib.hid hz
  have HW : Hid (W = (((w.alloc (.cells #[.int .i64 6, .slice p1 0 m1, .slice p2 0 m2, .slice (some ⟨a, aff, none⟩) 1 m3] 30)).alloc (.cells #[.int .i64 6, .slice q1 0 j1, .slice q2 0 j2, .slice (some ⟨b, off, none⟩) 1 j3] 30)).alloc (.cells #[.int .i64 0, .int .i64 0, .string ⟨#[]⟩, .slice none 0 0] 35)).alloc (.cells #[.int .i64 6, .int .i64 0, .string ⟨#[]⟩, .slice none 0 0] 35)) := by show _ = _; rw [hW, hW0]
  obtain ⟨x0, x1, x2, x3, _, _, _, _, xz⟩ := blk4 N1.out
  obtain ⟨y0, y1', y2', y3', _, _, _, _, yz⟩ := blk4 N2.out
  have HKp := Keeps.of_below hbw
  have e0 := HKp _ _ _ k0
  have e1 := HKp _ _ _ k1
  have e2 := HKp _ _ _ k2
  have e3 := HKp _ _ _ k3
  have g0 := HKp _ _ _ l0
  have g1 := HKp _ _ _ l1
  have g2 := HKp _ _ _ l2
  have g3 := HKp _ _ _ l3
  have bz : b < w.heap.size := World.block_lt_of_cell? w ⟨b, off, none⟩ k0
  have az : a < w.heap.size := World.block_lt_of_cell? w ⟨a, aff, none⟩ l0
  have HPw := Lib.hid hpw
  have HPr := Lib.hid hpr
  have IH := Lib.hid ih
  have HSK : Hid (∀ w', Below (w.heap.size + 1 + 1) W w' → (w'.cell? ⟨w.heap.size, 3, none⟩ = some (.slice (some ⟨a, aff, none⟩) 1 m3) ∧ w'.cell? ⟨w.heap.size + 1, 3, none⟩ = some (.slice (some ⟨b, off, none⟩) 1 j3) ∧ w'.cell? ⟨a, aff, none⟩ = some (.int .i64 x.kd) ∧ w'.cell? ⟨a, aff + 1, none⟩ = some (.slice a1 v1 z1) ∧ w'.cell? ⟨a, aff + 2, none⟩ = some (.slice a2 v2 z2) ∧ w'.cell? ⟨a, aff + 3, none⟩ = some (.slice a3 v3 z3) ∧ w'.cell? ⟨b, off, none⟩ = some (.int .i64 y.kd) ∧ w'.cell? ⟨b, off + 1, none⟩ = some (.slice t1 u1 y1) ∧ w'.cell? ⟨b, off + 2, none⟩ = some (.slice t2 u2 y2) ∧ w'.cell? ⟨b, off + 3, none⟩ = some (.slice t3 u3 y3))) := fun w' hb => by
    have k : ∀ b o c, b < w.heap.size + 1 + 1 → W.cell? ⟨b, o, none⟩ = some c → w'.cell? ⟨b, o, none⟩ = some c := fun b o c hlt hc => by rw [hb.cell (p := ⟨b, o, none⟩) hlt]; exact hc
    exact ⟨k _ _ _ (by omega) x3, k _ _ _ (by omega) y3', k _ _ _ (by omega) g0, k _ _ _ (by omega) g1, k _ _ _ (by omega) g2, k _ _ _ (by omega) g3, k _ _ _ (by omega) e0, k _ _ _ (by omega) e1, k _ _ _ (by omega) e2, k _ _ _ (by omega) e3⟩
  clear HN hbw hz hW hW0 hb0 hbW hz0 hw hr s3 r3 k0 k1 k2 k3 k4 l0 l1 l2 l3 l4 HKp hpw hpr ih x0 x1 x2 x3 xz y0 y1' y2' y3' yz e0 e1 e2 e3 g0 g1 g2 g3 bz az hx hU hv
  go_enter Try.func26, Try.ntmps26
  go_upto_region 14 with fail
  rw [← HW.out]
  go_region_held3 (fun w' => w'.cell? ⟨w.heap.size, 3, none⟩ = some (.slice (some ⟨a, aff, none⟩) 1 m3) ∧ w'.cell? ⟨w.heap.size + 1, 3, none⟩ = some (.slice (some ⟨b, off, none⟩) 1 j3) ∧ w'.cell? ⟨a, aff, none⟩ = some (.int .i64 x.kd) ∧ w'.cell? ⟨a, aff + 1, none⟩ = some (.slice a1 v1 z1) ∧ w'.cell? ⟨a, aff + 2, none⟩ = some (.slice a2 v2 z2) ∧ w'.cell? ⟨a, aff + 3, none⟩ = some (.slice a3 v3 z3) ∧ w'.cell? ⟨b, off, none⟩ = some (.int .i64 y.kd) ∧ w'.cell? ⟨b, off + 1, none⟩ = some (.slice t1 u1 y1) ∧ w'.cell? ⟨b, off + 2, none⟩ = some (.slice t2 u2 y2) ∧ w'.cell? ⟨b, off + 3, none⟩ = some (.slice t3 u3 y3))
    (first
      | exact HSK.out _ (Below.refl _ W).drew
      | exact HSK.out _ BB1.out
      | exact HSK.out _ (BB1.out.alloc (by have := HZ.out; have := B1.out.size; omega) _)
      | exact HSK.out _ ((BB1.out.setCell (p := ⟨w.heap.size + 1 + 1 + 1, 3, none⟩) (by show _ ≤ w.heap.size + 1 + 1 + 1; omega) _).alloc (by rw [size_set]; have := HZ.out; have := B1.out.size; omega) _))
    (first
      | (go_at_call 26; refine (IH.out d1 d2 x y v _ _ W.drew hd h1 h2 HPw.out HPr.out (IsSh.keep (Keeps.of_below BW.out.drew) _ _ L4.out) (IsSh.keep (Keeps.of_below BW.out.drew) _ _ K4.out) HU.out).mono ?_; rintro e w1 ⟨d0, d1', d2', d3, F, rfl, ho1, hn1, hb1⟩; obtain ⟨r3, w3, rfl, rfl, rfl, rfl⟩ := (OwnVa.is _ _ _ ho1).cells; have HO := Lib.hid (show OwnVa w1 W.heap.size _ _ F from ho1); have HNd := Lib.hid hn1; have B1 := Lib.hid (show Below W.heap.size W w1 from (Below.refl _ W).drew.trans hb1); have BB1 := Lib.hid (B1.out.mono (show w.heap.size + 1 + 1 ≤ W.heap.size by have := HZ.out; omega)); obtain ⟨_, _, _, _, _, _, _, _, _⟩ := blk4 (blk_below (w := W) N4.out B1.out (by have := HZ.out; omega)); clear ho1 hn1 hb1))
  all_goals
    have hz := HZ.out
    have hs1 := B1.out.size
    have lt := OwnVa.blocks _ _ _ HO.out
    have hv4 := blk_set (blk_below (w := W) N4.out B1.out (by omega)) 3 (.slice (some ⟨w1.heap.size, 0, none⟩) 1 1)
    have hr3 := blk_other (blk_below (w := W) N3.out B1.out (by omega)) (show w.heap.size + 1 + 1 ≠ w.heap.size + 1 + 1 + 1 by omega) (i := 3) (.slice (some ⟨w1.heap.size, 0, none⟩) 1 1)
    obtain ⟨w2, hw2⟩ : ∃ w2, w2 = w1.setCell ⟨w.heap.size + 1 + 1 + 1, 3, none⟩ (.slice (some ⟨w1.heap.size, 0, none⟩) 1 1) := ⟨_, rfl⟩
    have hz2 : w2.heap.size = w1.heap.size := by rw [hw2, size_set]
    have hB2 : Below w.heap.size w w2 := by rw [hw2]; exact (BW.out.trans (B1.out.mono BW.out.size)).setCell (p := ⟨w.heap.size + 1 + 1 + 1, 3, none⟩) (by show _ ≤ w.heap.size + 1 + 1 + 1; omega) _
    have ho2 : OwnVa w2 w.heap.size v (.agg #[.int .i64 v.kd, .int .i64 v.nn, .string v.tx, .slice r3 v.it.length w3]) F := OwnVa.move (by omega) _ _ _ (fun g hg => by rw [hw2]; exact Below.heap_setCell _ _ _ _ (show g ≠ w.heap.size + 1 + 1 + 1 by have := lt g hg; omega)) HO.out
    obtain ⟨ho3, hn3⟩ := own_one (k := 6) (by unfold InI64'; omega) ho2 HNd.out hB2.size
    rw [← hw2] at hv4 hr3
    rw [hz2] at ho3 hn3
    obtain ⟨r0, r1, r2, rr3, _, _, _, _, rz⟩ := blk4 hr3
    obtain ⟨v0, v1', v2', v3', _, _, _, _, vz⟩ := blk4 hv4
    have HO3 := Lib.hid ho3
    have HN3 := Lib.hid hn3
    have HB3 := Lib.hid (hB2.alloc hB2.size (.cells #[.int .i64 v.kd, .int .i64 v.nn, .string v.tx, .slice r3 v.it.length w3] 35))
    have HF : Hid (∀ g ∈ w1.heap.size :: F, g ≠ w.heap.size + 1 + 1) := fun g hg => by
      rcases List.mem_cons.1 hg with rfl | hg
      · omega
      · have := lt g hg; omega
    have HW2 := Lib.hid hw2
    rw [← hw2]
    clear hv4 hr3 hw2 ho2 ho3 hn3 hB2 lt hz2
    go_wp2_with fail
    refine bodyPost_ret (v := .agg #[.int .i64 6, .int .i64 0, .string ⟨#[]⟩, .slice (some ⟨w1.heap.size, 0, none⟩) 1 1]) (by simp [results, Try.results26, go_sem, r0, r1, r2, rr3, rz]) rfl ?_
    have h' := va_end (x := .mk 6 0 ⟨#[]⟩ [v]) (b := w.heap.size + 1 + 1) HB3.out (by omega) HO3.out HF.out HN3.out
    rw [putQ_alloc rz] at h'
    exact h'

end Go.Proofs.Ytbpidhlpakobiaa
