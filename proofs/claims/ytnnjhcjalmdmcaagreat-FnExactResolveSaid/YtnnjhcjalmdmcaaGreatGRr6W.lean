/- Walk: impl.Resolve. -/
import Derived.Test.YtnnjhcjalmdmcaaGreatGRrB
import Derived.Test.YtnnjhcjalmdmcaaGreatGFit6W
import Derived.Test.YtnnjhcjalmdmcaaGreatGFourP
namespace Go.Proofs.YtnnjhcjalmdmcaaGreat
open Go.RowKit

/-- What Resolve tells. -/
def resR (wt rt : Sh) (u : Va) : Va × Int := if (rightB rt && fitsB wt u) = true then rdB 10 wt rt u else (zva, 1)
theorem field_rdR (f1 f2 : FuncId) (c1 c2 : Array Value) (w : World) : (Instr.field 67 (.agg #[.func (.func f1) #[] c1, .func (.func f2) #[] c2]) 0).run Tryz.prog w = .ok (.func (.func f1) #[] c1) w := by kernel_rfl
theorem envR_noneR {z w : World} (h : Below z.heap.size z w) : EnvR (fun _ => False) z w := ⟨h, fun _ h => h.elim, fun _ h => h.elim⟩
set_option maxRecDepth 100000 in
set_option maxHeartbeats 1000000 in
theorem implResolve_is (wt rt : Sh) (u : Va) (r : Va × Int) (hb : resR wt rt u = r) (vw vr v : Value) (w : World) (hw : IsSh w wt vw) (hr : IsSh w rt vr) (hv : IsVa w u v) :
    Calls Tryz.prog 6 #[vw, vr, v] w (RdPost r w) := by
  have HWv := Lib.hid hw
  have HRv := Lib.hid hr
  have HVv := Lib.hid hv
  obtain ⟨p1, n1, m1, p2, n2, m2, p3, n3, m3, rfl⟩ := hw.agg
  obtain ⟨q1, i1, j1, q2, i2, j2, q3, i3, j3, rfl⟩ := hr.agg
  obtain ⟨p, m, rfl⟩ := hv.agg
  obtain ⟨W, hW, hbw, hz, HN1, HN2, HN3, HN4⟩ := four_new w (.cells #[.int .i64 wt.kd, .slice p1 n1 m1, .slice p2 n2 m2, .slice p3 n3 m3] 26) (.cells #[.int .i64 rt.kd, .slice q1 i1 j1, .slice q2 i2 j2, .slice q3 i3 j3] 26) (.cells #[.int .i64 u.kd, .int .i64 u.nn, .string u.tx, .slice p u.it.length m] 29) (.cells #[.int .i64 0, .int .i64 0, .string ⟨#[]⟩, .slice none 0 0, .int .i64 0] 33)
  have HZ := Lib.hid hz
  have N1 := Lib.hid HN1
  have N2 := Lib.hid HN2
  have N3 := Lib.hid HN3
  have N4 := Lib.hid HN4
  have BW := Lib.hid hbw
  have HW := Lib.hid hW
  have HBb := Lib.hid hb
  clear HN1 HN2 HN3 HN4 hbw hW hw hr hv hb hz
  have HK := Lib.hid (fun (w' : World) (h : Below w.heap.size w w') => And.intro (IsSh.keep (Keeps.of_below h) _ _ HWv.out) (And.intro (IsSh.keep (Keeps.of_below h) _ _ HRv.out) (IsVa.keep (Keeps.of_below h) _ _ HVv.out)))
  cases h1 : rightB rt
  · have H1 := Lib.hid h1
    have HB : Hid ((zva, 1) = r) := by show _ = _; rw [← HBb.out]; unfold resR; rw [h1]; rfl
    clear h1
    go_enter Tryz.func6, Tryz.ntmps6
    go_wp2_with fail
    rw [← HW.out]
    refine (implRight_is rt _ H1.out _ W (HK.out _ BW.out).2.1).mono ?_
    rintro e w1 ⟨rfl, hb1⟩
    have B1 := Lib.hid hb1
    obtain ⟨r0, r1, r2, r3, r4, _, _, _, _, _, rz⟩ := blk5 (blk_below N4.out hb1 (by have := HZ.out; omega))
    clear hb1
    go_wp2_with fail
    refine bodyPost_ret (v := .agg #[.int .i64 0, .int .i64 0, .string ⟨#[]⟩, .slice none 0 0, .int .i64 1]) (by simp [results, Tryz.results6, go_sem, r0, r1, r2, r3, r4]) rfl ?_
    rw [← HB.out]
    exact rd_of_va BW.out B1.out (by omega) (by have := HZ.out; omega) (own_zva _ _) List.nodup_nil 1
  · have H1 := Lib.hid h1
    cases h2 : fitsB wt u
    · have H2 := Lib.hid h2
      have HB : Hid ((zva, 1) = r) := by show _ = _; rw [← HBb.out]; unfold resR; rw [h1, h2]; rfl
      clear h1 h2
      go_enter Tryz.func6, Tryz.ntmps6
      go_wp2_with fail
      rw [← HW.out]
      refine (implRight_is rt _ H1.out _ W (HK.out _ BW.out).2.1).mono ?_
      rintro e w1 ⟨rfl, hb1⟩
      have B1 := Lib.hid hb1
      obtain ⟨x0, x1, x2, x3, _, _, _, _, xz⟩ := blk4 (blk_below N1.out hb1 (by have := HZ.out; omega))
      obtain ⟨y0, y1, y2, y3, _, _, _, _, yz⟩ := blk4 (blk_below N3.out hb1 (by have := HZ.out; omega))
      clear hb1
      go_wp2_with fail
      refine (implFits_is wt u _ H2.out _ _ w1 (HK.out _ (BW.out.trans (B1.out.mono BW.out.size))).1 (HK.out _ (BW.out.trans (B1.out.mono BW.out.size))).2.2).mono ?_
      rintro e w2 ⟨rfl, hb2⟩
      have B2 := Lib.hid (B1.out.trans (hb2.mono B1.out.size))
      obtain ⟨r0, r1, r2, r3, r4, _, _, _, _, _, rz⟩ := blk5 (blk_below N4.out B2.out (by have := HZ.out; omega))
      clear hb2
      go_wp2_with fail
      refine bodyPost_ret (v := .agg #[.int .i64 0, .int .i64 0, .string ⟨#[]⟩, .slice none 0 0, .int .i64 1]) (by simp [results, Tryz.results6, go_sem, r0, r1, r2, r3, r4]) rfl ?_
      rw [← HB.out]
      exact rd_of_va BW.out B2.out (by omega) (by have := HZ.out; omega) (own_zva _ _) List.nodup_nil 1
    · have H2 := Lib.hid h2
      have HF : Hid (rightB wt = true ∧ fitB wt u = true) := by show _ ∧ _; unfold fitsB at h2; simpa using h2
      have HB : Hid (rdB 10 wt rt u = r) := by show _ = _; rw [← HBb.out]; unfold resR; rw [h1, h2]; rfl
      clear h1 h2
      go_enter Tryz.func6, Tryz.ntmps6
      go_wp2_with fail
      rw [← HW.out]
      refine (implRight_is rt _ H1.out _ W (HK.out _ BW.out).2.1).mono ?_
      rintro e w1 ⟨rfl, hb1⟩
      have B1 := Lib.hid hb1
      obtain ⟨x0, x1, x2, x3, _, _, _, _, xz⟩ := blk4 (blk_below N1.out hb1 (by have := HZ.out; omega))
      obtain ⟨y0, y1, y2, y3, _, _, _, _, yz⟩ := blk4 (blk_below N3.out hb1 (by have := HZ.out; omega))
      clear hb1
      go_wp2_with fail
      refine (implFits_is wt u _ H2.out _ _ w1 (HK.out _ (BW.out.trans (B1.out.mono BW.out.size))).1 (HK.out _ (BW.out.trans (B1.out.mono BW.out.size))).2.2).mono ?_
      rintro e w2 ⟨rfl, hb2⟩
      have B2 := Lib.hid (BW.out.trans ((B1.out.trans (hb2.mono B1.out.size)).mono BW.out.size))
      have hb12 := B1.out.trans (hb2.mono B1.out.size)
      have P1 := blk4 (blk_below N1.out hb12 (by have := HZ.out; omega))
      have P2 := blk4 (blk_below N2.out hb12 (by have := HZ.out; omega))
      have P3 := blk4 (blk_below N3.out hb12 (by have := HZ.out; omega))
      have P4 := Lib.hid (blk_below N4.out hb12 (by have := HZ.out; omega))
      clear x0 x1 x2 x3 xz y0 y1 y2 y3 yz
      obtain ⟨x0, x1, x2, x3, _, _, _, _, xz⟩ := P1
      obtain ⟨y0, y1, y2, y3, _, _, _, _, yz⟩ := P2
      obtain ⟨z0, z1, z2, z3, _, _, _, _, zz⟩ := P3
      have HZ2 : Hid (w.heap.size + 1 + 1 + 1 < w2.heap.size) := Nat.lt_of_lt_of_le (by have := HZ.out; omega) hb12.size
      have HSK : Hid (∀ w', Below (w.heap.size + 1 + 1 + 1) w2 w' → (w'.cell? ⟨w.heap.size, 0, none⟩ = some (.int .i64 wt.kd) ∧ w'.cell? ⟨w.heap.size, 1, none⟩ = some (.slice p1 n1 m1) ∧ w'.cell? ⟨w.heap.size, 2, none⟩ = some (.slice p2 n2 m2) ∧ w'.cell? ⟨w.heap.size, 3, none⟩ = some (.slice p3 n3 m3) ∧ w'.cell? ⟨w.heap.size + 1, 0, none⟩ = some (.int .i64 rt.kd) ∧ w'.cell? ⟨w.heap.size + 1, 1, none⟩ = some (.slice q1 i1 j1) ∧ w'.cell? ⟨w.heap.size + 1, 2, none⟩ = some (.slice q2 i2 j2) ∧ w'.cell? ⟨w.heap.size + 1, 3, none⟩ = some (.slice q3 i3 j3) ∧ w'.cell? ⟨w.heap.size + 1 + 1, 0, none⟩ = some (.int .i64 u.kd) ∧ w'.cell? ⟨w.heap.size + 1 + 1, 1, none⟩ = some (.int .i64 u.nn) ∧ w'.cell? ⟨w.heap.size + 1 + 1, 2, none⟩ = some (.string u.tx) ∧ w'.cell? ⟨w.heap.size + 1 + 1, 3, none⟩ = some (.slice p u.it.length m))) := fun w' hb => by
        have k : ∀ b o c, b < w.heap.size + 1 + 1 + 1 → w2.cell? ⟨b, o, none⟩ = some c → w'.cell? ⟨b, o, none⟩ = some c := fun b o c hlt hc => by rw [hb.cell (p := ⟨b, o, none⟩) hlt]; exact hc
        exact ⟨k _ _ _ (by omega) x0, k _ _ _ (by omega) x1, k _ _ _ (by omega) x2, k _ _ _ (by omega) x3, k _ _ _ (by omega) y0, k _ _ _ (by omega) y1, k _ _ _ (by omega) y2, k _ _ _ (by omega) y3, k _ _ _ (by omega) z0, k _ _ _ (by omega) z1, k _ _ _ (by omega) z2, k _ _ _ (by omega) z3⟩
      clear hb2 hb12 x0 x1 x2 x3 xz y0 y1 y2 y3 yz z0 z1 z2 z3 zz
      go_upto_region 3 with fail
      go_region_held3 (fun w' => w'.cell? ⟨w.heap.size, 0, none⟩ = some (.int .i64 wt.kd) ∧ w'.cell? ⟨w.heap.size, 1, none⟩ = some (.slice p1 n1 m1) ∧ w'.cell? ⟨w.heap.size, 2, none⟩ = some (.slice p2 n2 m2) ∧ w'.cell? ⟨w.heap.size, 3, none⟩ = some (.slice p3 n3 m3) ∧ w'.cell? ⟨w.heap.size + 1, 0, none⟩ = some (.int .i64 rt.kd) ∧ w'.cell? ⟨w.heap.size + 1, 1, none⟩ = some (.slice q1 i1 j1) ∧ w'.cell? ⟨w.heap.size + 1, 2, none⟩ = some (.slice q2 i2 j2) ∧ w'.cell? ⟨w.heap.size + 1, 3, none⟩ = some (.slice q3 i3 j3) ∧ w'.cell? ⟨w.heap.size + 1 + 1, 0, none⟩ = some (.int .i64 u.kd) ∧ w'.cell? ⟨w.heap.size + 1 + 1, 1, none⟩ = some (.int .i64 u.nn) ∧ w'.cell? ⟨w.heap.size + 1 + 1, 2, none⟩ = some (.string u.tx) ∧ w'.cell? ⟨w.heap.size + 1 + 1, 3, none⟩ = some (.slice p u.it.length m))
        (first
          | exact HSK.out _ (Below.refl _ w2).drew
          | exact HSK.out _ BB3.out
          | exact HSK.out _ BB4.out
          | exact HSK.out _ ((putQ_below BB4.out (Nat.le_refl _) _ _ _ _).setCell (p := ⟨w.heap.size + 1 + 1 + 1, 4, none⟩) (Nat.le_refl _) _))
        (first
          | (go_at_call 36; refine (readingR_any (fun _ => False) w w2.drew wt rt _ _ HF.out.1 H1.out HWv.out HRv.out (envR_noneR B2.out.drew)).mono ?_; rintro e w3 ⟨f1, c1, f2, c2, rfl, hG, hb3⟩; have BB3 := Lib.hid (show Below (w.heap.size + 1 + 1 + 1) w2 w3 from ((Below.refl _ w2).drew.trans hb3).mono (Nat.le_of_lt HZ2.out)); have B3 := Lib.hid (show Below w2.heap.size w2 w3 from (Below.refl _ w2).drew.trans hb3); have B03 := Lib.hid (B2.out.trans (B3.out.mono B2.out.size)); obtain ⟨hE, hC⟩ := hG; have HCall := Lib.hid (hC w3 u _ (Still.refl _ _) HF.out.2 (HK.out _ B03.out).2.2); rw [HB.out] at HCall; unfold Enters at hE; have hf := fun w' => field_rdR f1 f2 c1 c2 w'; clear hb3 hC)
          | (refine HCall.out.mono ?_; rintro e w4 ⟨d0, d1, d2, d3, F, rfl, ho4, hn4, hb4⟩; obtain ⟨r3, z3, rfl, rfl, rfl, rfl⟩ := (OwnVa.is _ _ _ ho4).cells; have HO := Lib.hid ho4; have HNd := Lib.hid hn4; have B4 := Lib.hid hb4; have BB4 := Lib.hid (show Below (w.heap.size + 1 + 1 + 1) w2 w4 from BB3.out.trans (hb4.mono (Nat.le_trans (Nat.le_of_lt HZ2.out) B3.out.size))); obtain ⟨_, _, _, _, _, _, _, _, _, _, _⟩ := blk5 (blk_below (w := w2) P4.out (B3.out.trans (hb4.mono B3.out.size)) HZ2.out); clear ho4 hn4 hb4)
          | fail)
      all_goals
        obtain ⟨y0, y1, y2, y3, y4, _, _, _, _, _, yz⟩ := blk5 (blk_below (w := w2) P4.out (B3.out.trans (B4.out.mono B3.out.size)) HZ2.out)
        go_wp2_with fail
        refine bodyPost_ret (v := .agg #[.int .i64 r.1.kd, .int .i64 r.1.nn, .string r.1.tx, .slice r3 r.1.it.length z3, .int .i64 r.2]) (by simp [results, Tryz.results6, go_sem, y0, y1, y2, y3, y4]) rfl ?_
        exact rd_of_va B03.out B4.out (by omega) (Nat.lt_of_lt_of_le HZ2.out B3.out.size) HO.out HNd.out r.2
end Go.Proofs.YtnnjhcjalmdmcaaGreat
