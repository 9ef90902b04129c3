/- Walks: spec.l05Resolve at any two right shapes; spec.Resolve. -/
import Derived.Test.YtnnjhcjalmdmcaaGreatGSrB
import Derived.Test.YtnnjhcjalmdmcaaGreatGSr5W
import Derived.Test.YtnnjhcjalmdmcaaGreatGSr6W
import Derived.Test.YtnnjhcjalmdmcaaGreatGRr6W
import Derived.Test.YtnnjhcjalmdmcaaGreatGSpF
namespace Go.Proofs.YtnnjhcjalmdmcaaGreat
open Go.RowKit

theorem fit_leaf {k : Int} {sy na : List ByteArray} {su : List Sh} {u : Va} (hk : k = 1 ∨ k = 2 ∨ k = 3 ∨ k = 4) (h : fitB (.mk k sy na su) u = true) : u.it.length = 0 := by
  cases u with | mk kk n t it =>
  rcases hk with rfl | rfl | rfl | rfl
  · unfold fitB at h
    rw [if_pos rfl] at h
    simp only [numOk, Bool.and_eq_true, decide_eq_true_eq] at h
    exact h.2.1.2
  · unfold fitB at h
    rw [if_neg (by decide), if_pos rfl] at h
    simp only [numOk, Bool.and_eq_true, decide_eq_true_eq] at h
    exact h.2.1.2
  · unfold fitB at h
    rw [if_neg (by decide), if_neg (by decide), if_pos rfl] at h
    simp only [txtOk, Bool.and_eq_true, decide_eq_true_eq] at h
    exact h.2.1.2
  · unfold fitB at h
    rw [if_neg (by decide), if_neg (by decide), if_neg (by decide), if_pos rfl] at h
    simp only [txtOk, Bool.and_eq_true, decide_eq_true_eq] at h
    exact h.2.1.2
theorem fit_zip {sy na : List ByteArray} {su : List Sh} {u : Va} (h : fitB (.mk 7 sy na su) u = true) : fitZip su u.it = true := by
  cases u with | mk kk n t it =>
  unfold fitB at h
  rw [if_neg (by decide), if_neg (by decide), if_neg (by decide), if_neg (by decide), if_neg (by decide), if_neg (by decide)] at h
  simp only [Bool.and_eq_true] at h
  exact h.2.2

/-- spec.l05Resolve. -/
theorem sr_all (n : Nat) : SrAt n := by
  induction n with
  | zero =>
    intro d1 d2 wt rt u vw vr v w hd h1 h2 hpw
    obtain rfl : d1 = 0 := by omega
    simp [partOk] at hpw
  | succ n ih =>
    intro d1 d2 wt rt u vw vr v w hd h1 h2 hpw hpr hw hr hf hv
    obtain ⟨d1', rfl⟩ : ∃ d, d1 = d + 1 := by cases d1 with | zero => simp [partOk] at hpw | succ d => exact ⟨d, rfl⟩
    obtain ⟨d2', rfl⟩ : ∃ d, d2 = d + 1 := by cases d2 with | zero => simp [partOk] at hpr | succ d => exact ⟨d, rfl⟩
    by_cases hr5 : rt.kd = 5
    · cases rt with | mk k2 sy2 na2 su2 =>
      obtain rfl : k2 = 5 := hr5
      simp only [partOk, Bool.and_eq_true] at hpr
      rcases sound_cases hpr.1 with ⟨hk, _⟩ | ⟨hk, _⟩ | ⟨_, rfl, rfl, hn⟩ | ⟨hk, _⟩
      · omega
      · omega
      · obtain ⟨x, rfl⟩ := List.length_eq_one_iff.1 hn
        have hx : partOk d2' x = true := by simpa using hpr.2
        by_cases hw5 : wt.kd = 5
        · cases wt with | mk k1 sy1 na1 su1 =>
          obtain rfl : k1 = 5 := hw5
          simp only [partOk, Bool.and_eq_true] at hpw
          rcases sound_cases hpw.1 with ⟨hk, _⟩ | ⟨hk, _⟩ | ⟨_, rfl, rfl, hn1⟩ | ⟨hk, _⟩
          · omega
          · omega
          · obtain ⟨y, rfl⟩ := List.length_eq_one_iff.1 hn1
            exact sr_items5 n ih w d1' d2' y x u vw vr v (by omega) (by omega) (by omega) (by simpa using hpw.2) hx hw hr hv hf
          · omega
        · exact sr_wrap n ih w (d1' + 1) d2' wt x u vw vr v (by omega) h1 (by omega) hpw hx hw hr hv hf hw5
      · omega
    · by_cases hne : wt.kd = rt.kd
      · cases wt with | mk k1 sy1 na1 su1 =>
        cases rt with | mk k2 sy2 na2 su2 =>
        obtain rfl : k1 = k2 := hne
        simp only [partOk, Bool.and_eq_true] at hpw hpr
        rcases sound_cases hpw.1 with ⟨hk, _⟩ | ⟨rfl, _, _, _, _⟩ | ⟨hk, rfl, rfl, hn1⟩ | ⟨rfl, rfl, _, _, hl⟩
        · have h0 := fit_leaf (by omega) hf
          rcases hk with rfl | rfl | rfl
          · exact sr_plain1 n w _ _ u vw vr v hw hr hv rfl rfl h0
          · exact sr_plain2 n w _ _ u vw vr v hw hr hv rfl rfl h0
          · exact sr_plain3 n w _ _ u vw vr v hw hr hv rfl rfl h0
        · have h0 := fit_leaf (by omega) hf
          obtain ⟨q1, j1, q2, j2, q3, j3, rfl, _, t1, _, _⟩ := hr.open
          exact sr_pick n w _ (.mk 4 sy2 na2 su2) sy2 u vw v q1 q2 q3 _ _ j1 j2 j3 hw t1 hv rfl rfl rfl h0
        · rcases hk with rfl | rfl
          · exact absurd rfl hr5
          · rcases sound_cases hpr.1 with ⟨hk, _⟩ | ⟨hk, _⟩ | ⟨_, rfl, rfl, hn2⟩ | ⟨hk, _⟩
            · omega
            · omega
            · obtain ⟨x, rfl⟩ := List.length_eq_one_iff.1 hn1
              obtain ⟨y, rfl⟩ := List.length_eq_one_iff.1 hn2
              exact sr_items6 n ih w d1' d2' x y u vw vr v (by omega) (by omega) (by omega) (by simpa using hpw.2) (by simpa using hpr.2) hw hr hv hf
            · omega
        · rcases sound_cases hpr.1 with ⟨hk, _⟩ | ⟨hk, _⟩ | ⟨hk, _⟩ | ⟨_, rfl, h6, _, hl2⟩
          · omega
          · omega
          · omega
          · exact sr_rec n ih w d1' d2' na1 su1 na2 su2 u vw vr v (by omega) (by omega) (by omega) hpw.2 hl hl2 (by omega) hpr.2 hw hr hv (fit_zip hf)
      · by_cases hw5 : wt.kd = 5
        · cases wt with | mk k1 sy1 na1 su1 =>
          obtain rfl : k1 = 5 := hw5
          simp only [partOk, Bool.and_eq_true] at hpw
          rcases sound_cases hpw.1 with ⟨hk, _⟩ | ⟨hk, _⟩ | ⟨_, rfl, rfl, hn1⟩ | ⟨hk, _⟩
          · omega
          · omega
          · obtain ⟨y, rfl⟩ := List.length_eq_one_iff.1 hn1
            by_cases h0 : u.it.length = 0
            · exact sr_unwrap_no n w _ rt u vw vr v hw hr hv rfl hr5 h0
            · exact sr_unwrap_yes n ih w d1' (d2' + 1) y rt u vw vr v (by omega) (by omega) h2 (by simpa using hpw.2) hpr hw hr hv hf hr5 (by omega)
          · omega
        · exact sr_other n w wt rt u vw vr v hw hr hv hw5 hr5 hne

set_option maxRecDepth 100000 in
set_option maxHeartbeats 1000000 in
theorem specResolve_is (wt rt : Sh) (u : Va) (r : Va × Int) (hb : resR wt rt u = r) (vw vr v : Value) (w : World) (hw : IsSh w wt vw) (hr : IsSh w rt vr) (hv : IsVa w u v) :
    Calls Tryz.prog 11 #[vw, vr, v] w (RdPost r w) := by
  have HWv := Lib.hid hw
  have HRv := Lib.hid hr
  have HVv := Lib.hid hv
  obtain ⟨p1, n1, m1, p2, n2, m2, p3, n3, m3, rfl⟩ := hw.agg
  obtain ⟨q1, i1, j1, q2, i2, j2, q3, i3, j3, rfl⟩ := hr.agg
  obtain ⟨p, m, rfl⟩ := hv.agg
  obtain ⟨W, hW, hbw, hz, HN1, HN2, HN3, HN4⟩ := four_new w (.cells #[.int .i64 wt.kd, .slice p1 n1 m1, .slice p2 n2 m2, .slice p3 n3 m3] 26) (.cells #[.int .i64 rt.kd, .slice q1 i1 j1, .slice q2 i2 j2, .slice q3 i3 j3] 26) (.cells #[.int .i64 u.kd, .int .i64 u.nn, .string u.tx, .slice p u.it.length m] 29) (.cells #[.int .i64 0, .int .i64 0, .string ⟨#[]⟩, .slice none 0 0, .int .i64 0] 33)
  have HZ := Lib.hid hz
  have N1 := Lib.hid HN1
  have N2 := Lib.hid HN2
  have N3 := Lib.hid HN3
  have N4 := Lib.hid HN4
  have BW := Lib.hid hbw
  have HW := Lib.hid hW
  have HBb := Lib.hid hb
  clear HN1 HN2 HN3 HN4 hbw hW hw hr hv hb hz
  have HK := Lib.hid (fun (w' : World) (h : Below w.heap.size w w') => And.intro (IsSh.keep (Keeps.of_below h) _ _ HWv.out) (And.intro (IsSh.keep (Keeps.of_below h) _ _ HRv.out) (IsVa.keep (Keeps.of_below h) _ _ HVv.out)))
  obtain ⟨X, hX⟩ : ∃ X, zva = X := ⟨_, rfl⟩
  have HX := Lib.hid hX
  have HIll : Hid (∀ w', Calls Tryz.prog 37 #[.int .i64 1] w' (RdPost (X, 1) w')) := fun w' => hX ▸ ill5_any 1 w'
  clear hX
  cases h2 : fitsB wt u
  · have H2 := Lib.hid h2
    have HB : Hid ((X, 1) = r) := by show _ = _; rw [← HBb.out, ← HX.out]; unfold resR; rw [h2]; simp
    clear h2
    go_enter Tryz.func11, Tryz.ntmps11
    go_wp2_with fail
    rw [← HW.out]
    refine (specFits_is wt u _ H2.out _ _ W (HK.out _ BW.out).1 (HK.out _ BW.out).2.2).mono ?_
    rintro e w1 ⟨rfl, hb1⟩
    have B1 := Lib.hid hb1
    clear hb1
    go_wp2_with fail
    refine (HIll.out w1).mono ?_
    rintro e w2 ⟨c0, c1, c2, c3, F, rfl, ho1, hn1, hb2⟩
    obtain ⟨r3, z3, rfl, rfl, rfl, rfl⟩ := (OwnVa.is _ _ _ ho1).cells
    have HO := Lib.hid (OwnVa.move B1.out.size _ _ _ (fun _ _ => rfl) ho1)
    have HNd := Lib.hid hn1
    have B2 := Lib.hid (B1.out.trans (hb2.mono B1.out.size))
    obtain ⟨r0, r1, r2, rr3, r4, _, _, _, _, _, rz⟩ := blk5 (blk_below N4.out B2.out (by have := HZ.out; omega))
    clear ho1 hn1 hb2
    go_wp2_with fail
    refine bodyPost_ret (v := .agg #[.int .i64 X.kd, .int .i64 X.nn, .string X.tx, .slice r3 X.it.length z3, .int .i64 1]) (by simp [results, Tryz.results11, go_sem, r0, r1, r2, rr3, r4]) rfl ?_
    rw [← HB.out]
    exact rd_of_va BW.out B2.out (by omega) (by have := HZ.out; omega) HO.out HNd.out 1
  · have H2 := Lib.hid h2
    cases h1 : rightB rt
    · have H1 := Lib.hid h1
      have HB : Hid ((X, 1) = r) := by show _ = _; rw [← HBb.out, ← HX.out]; unfold resR; rw [h1]; rfl
      clear h1 h2
      go_enter Tryz.func11, Tryz.ntmps11
      go_wp2_with fail
      rw [← HW.out]
      refine (specFits_is wt u _ H2.out _ _ W (HK.out _ BW.out).1 (HK.out _ BW.out).2.2).mono ?_
      rintro e w1 ⟨rfl, hb1⟩
      have B1 := Lib.hid hb1
      obtain ⟨y0, y1, y2, y3, _, _, _, _, yz⟩ := blk4 (blk_below N2.out hb1 (by have := HZ.out; omega))
      clear hb1
      go_wp2_with fail
      refine (specRight_is rt _ H1.out _ w1 (HK.out _ (BW.out.trans (B1.out.mono BW.out.size))).2.1).mono ?_
      rintro e w2 ⟨rfl, hb2⟩
      have B2 := Lib.hid (B1.out.trans (hb2.mono B1.out.size))
      clear hb2 y0 y1 y2 y3 yz
      go_wp2_with fail
      refine (HIll.out w2).mono ?_
      rintro e w3 ⟨c0, c1, c2, c3, F, rfl, ho1, hn1, hb2⟩
      obtain ⟨r3, z3, rfl, rfl, rfl, rfl⟩ := (OwnVa.is _ _ _ ho1).cells
      have HO := Lib.hid (OwnVa.move B2.out.size _ _ _ (fun _ _ => rfl) ho1)
      have HNd := Lib.hid hn1
      have B3 := Lib.hid (B2.out.trans (hb2.mono B2.out.size))
      obtain ⟨r0, r1, r2, rr3, r4, _, _, _, _, _, rz⟩ := blk5 (blk_below N4.out B3.out (by have := HZ.out; omega))
      clear ho1 hn1 hb2
      go_wp2_with fail
      refine bodyPost_ret (v := .agg #[.int .i64 X.kd, .int .i64 X.nn, .string X.tx, .slice r3 X.it.length z3, .int .i64 1]) (by simp [results, Tryz.results11, go_sem, r0, r1, r2, rr3, r4]) rfl ?_
      rw [← HB.out]
      exact rd_of_va BW.out B3.out (by omega) (by have := HZ.out; omega) HO.out HNd.out 1
    · have H1 := Lib.hid h1
      have HF : Hid (rightB wt = true ∧ fitB wt u = true) := by show _ ∧ _; unfold fitsB at h2; simpa using h2
      have HB : Hid (rdB 10 wt rt u = r) := by show _ = _; rw [← HBb.out]; unfold resR; rw [h1, h2]; rfl
      clear h1 h2
      go_enter Tryz.func11, Tryz.ntmps11
      go_wp2_with fail
      rw [← HW.out]
      refine (specFits_is wt u _ H2.out _ _ W (HK.out _ BW.out).1 (HK.out _ BW.out).2.2).mono ?_
      rintro e w1 ⟨rfl, hb1⟩
      have B1 := Lib.hid hb1
      obtain ⟨y0, y1, y2, y3, _, _, _, _, yz⟩ := blk4 (blk_below N2.out hb1 (by have := HZ.out; omega))
      clear hb1
      go_wp2_with fail
      refine (specRight_is rt _ H1.out _ w1 (HK.out _ (BW.out.trans (B1.out.mono BW.out.size))).2.1).mono ?_
      rintro e w2 ⟨rfl, hb2⟩
      have B2 := Lib.hid (B1.out.trans (hb2.mono B1.out.size))
      have B02 := Lib.hid (BW.out.trans (B2.out.mono BW.out.size))
      clear hb2 y0 y1 y2 y3 yz
      obtain ⟨x0, x1, x2, x3, _, _, _, _, xz⟩ := blk4 (blk_below N1.out B2.out (by have := HZ.out; omega))
      obtain ⟨y0, y1, y2, y3, _, _, _, _, yz⟩ := blk4 (blk_below N2.out B2.out (by have := HZ.out; omega))
      obtain ⟨z0, z1, z2, z3', _, _, _, _, zz⟩ := blk4 (blk_below N3.out B2.out (by have := HZ.out; omega))
      go_wp2_with fail
      refine (sr_all 10 5 5 wt rt u _ _ _ w2 (by omega) (by omega) (by omega) HF.out.1 H1.out (HK.out _ B02.out).1 (HK.out _ B02.out).2.1 HF.out.2 (HK.out _ B02.out).2.2).mono ?_
      rw [HB.out]
      rintro e w3 ⟨c0, c1, c2, c3, F, rfl, ho1, hn1, hb2⟩
      obtain ⟨r3, z4, rfl, rfl, rfl, rfl⟩ := (OwnVa.is _ _ _ ho1).cells
      have HO := Lib.hid (OwnVa.move B2.out.size _ _ _ (fun _ _ => rfl) ho1)
      have HNd := Lib.hid hn1
      have B3 := Lib.hid (B2.out.trans (hb2.mono B2.out.size))
      clear x0 x1 x2 x3 xz y0 y1 y2 y3 yz z0 z1 z2 z3' zz
      obtain ⟨r0, r1, r2, rr3, r4, _, _, _, _, _, rz⟩ := blk5 (blk_below N4.out B3.out (by have := HZ.out; omega))
      clear ho1 hn1 hb2
      go_wp2_with fail
      refine bodyPost_ret (v := .agg #[.int .i64 r.1.kd, .int .i64 r.1.nn, .string r.1.tx, .slice r3 r.1.it.length z4, .int .i64 r.2]) (by simp [results, Tryz.results11, go_sem, r0, r1, r2, rr3, r4]) rfl ?_
      exact rd_of_va BW.out B3.out (by omega) (by have := HZ.out; omega) HO.out HNd.out r.2
end Go.Proofs.YtnnjhcjalmdmcaaGreat
