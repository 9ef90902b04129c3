/- Walks: spec.l05Witness at any two right shapes that can not be read; spec.Witness. -/
import Derived.Test.YtbpidhlpakobiaaGSw3W
namespace Go.Proofs.Ytbpidhlpakobiaa
open Go.RowKit

/-- spec.l05Witness. -/
theorem sw_all (n : Nat) : SwAt n := by
  induction n with
  | zero =>
    intro d1 d2 wt rt x vw vr w hd h1 h2 hpw
    obtain rfl : d1 = 0 := by omega
    simp [partOk] at hpw
  | succ n ih =>
    intro d1 d2 wt rt v vw vr w hd h1 h2 hpw hpr hw hr hv
    obtain ⟨d1', rfl⟩ : ∃ d, d1 = d + 1 := by cases d1 with | zero => simp [partOk] at hpw | succ d => exact ⟨d, rfl⟩
    obtain ⟨d2', rfl⟩ : ∃ d, d2 = d + 1 := by cases d2 with | zero => simp [partOk] at hpr | succ d => exact ⟨d, rfl⟩
    by_cases hr5 : rt.kd = 5
    · cases rt with | mk k2 sy2 na2 su2 =>
      obtain rfl : k2 = 5 := hr5
      simp only [partOk, Bool.and_eq_true] at hpr
      rcases sound_cases hpr.1 with ⟨hk, _⟩ | ⟨hk, _⟩ | ⟨_, rfl, rfl, hn⟩ | ⟨hk, _⟩
      · omega
      · omega
      · obtain ⟨x, rfl⟩ := List.length_eq_one_iff.1 hn
        have hx : partOk d2' x = true := by simpa using hpr.2
        by_cases hw5 : wt.kd = 5
        · cases wt with | mk k1 sy1 na1 su1 =>
          obtain rfl : k1 = 5 := hw5
          simp only [partOk, Bool.and_eq_true] at hpw
          rcases sound_cases hpw.1 with ⟨hk, _⟩ | ⟨hk, _⟩ | ⟨_, rfl, rfl, hn1⟩ | ⟨hk, _⟩
          · omega
          · omega
          · obtain ⟨y, rfl⟩ := List.length_eq_one_iff.1 hn1
            have hy : partOk d1' y = true := by simpa using hpw.2
            exact sw_items5 n ih w d1' d2' y x v vw vr (by omega) (by omega) (by omega) hy hx hw hr hv
          · omega
        · exact sw_wrap n ih w (d1' + 1) d2' wt x v vw vr (by omega) h1 (by omega) hpw hx hw hr hw5 hv
      · omega
    · by_cases hne : wt.kd = rt.kd
      · cases wt with | mk k1 sy1 na1 su1 =>
        cases rt with | mk k2 sy2 na2 su2 =>
        obtain rfl : k1 = k2 := hne
        have hpw' := hpw
        simp only [partOk, Bool.and_eq_true] at hpw hpr
        obtain ⟨p1, m1, p2, m2, p3, m3, e1, _, s1, s2, s3⟩ := hw.open
        obtain ⟨q1, j1, q2, j2, q3, j3, e2, _, t1, t2, t3⟩ := hr.open
        rcases sound_cases hpw.1 with ⟨hk, _⟩ | ⟨rfl, _, _, hwd, _⟩ | ⟨hk, rfl, rfl, hn1⟩ | ⟨rfl, rfl, _, _, hl⟩
        · subst e1; subst e2
          rcases hk with rfl | rfl | rfl
          · exact absurd hv (by rw [wn_plain (w := .mk 1 sy1 na1 su1) (r := .mk 1 sy2 na2 su2) rfl (by simp [Sh.kd])]; simp)
          · exact absurd hv (by rw [wn_plain (w := .mk 2 sy1 na1 su1) (r := .mk 2 sy2 na2 su2) rfl (by simp [Sh.kd])]; simp)
          · exact absurd hv (by rw [wn_plain (w := .mk 3 sy1 na1 su1) (r := .mk 3 sy2 na2 su2) rfl (by simp [Sh.kd])]; simp)
        · subst e1; subst e2
          exact sw_pick n w _ _ v sy1 sy2 _ _ _ _ _ _ _ _ _ _ _ _ _ _ _ _ rfl rfl rfl rfl s1 t1 (words_size hwd) hv
        · rcases hk with rfl | rfl
          · exact absurd rfl hr5
          · rcases sound_cases hpr.1 with ⟨hk, _⟩ | ⟨hk, _⟩ | ⟨_, rfl, rfl, hn2⟩ | ⟨hk, _⟩
            · omega
            · omega
            · obtain ⟨x, rfl⟩ := List.length_eq_one_iff.1 hn1
              obtain ⟨y, rfl⟩ := List.length_eq_one_iff.1 hn2
              exact sw_items6 n ih w d1' d2' x y v vw vr (by omega) (by omega) (by omega) (by simpa using hpw.2) (by simpa using hpr.2) hw hr hv
            · omega
        · rcases sound_cases hpr.1 with ⟨hk, _⟩ | ⟨hk, _⟩ | ⟨hk, _⟩ | ⟨_, rfl, h6, _, hl2⟩
          · omega
          · omega
          · omega
          · exact sw_rec n ih w d1' d2' na1 su1 na2 su2 v vw vr (by omega) h1 (by omega) hpw' hpw.2 hl hl2 hpr.2 hw hr hv
      · by_cases hw5 : wt.kd = 5
        · exact sw_unwrap n w wt rt v vw vr hw hr hw5 hr5 hv
        · exact sw_other n w (d1' + 1) wt rt v vw vr h1 hpw hw hr hw5 hr5 hne hv

set_option maxRecDepth 100000 in
set_option maxHeartbeats 1000000 in
theorem specWitness_is (wt rt : Sh) (x : Va) (hb : witR wt rt = x) (vw vr : Value) (w : World) (hw : IsSh w wt vw) (hr : IsSh w rt vr) :
    Calls Try.prog 10 #[vw, vr] w (ToVPost x w) := by
  have HWv := Lib.hid hw
  have HRv := Lib.hid hr
  obtain ⟨p1, n1, m1, p2, n2, m2, p3, n3, m3, rfl⟩ := hw.agg
  obtain ⟨q1, i1, j1, q2, i2, j2, q3, i3, j3, rfl⟩ := hr.agg
  obtain ⟨W, hW⟩ : ∃ W, W = ((w.alloc (.cells #[.int .i64 wt.kd, .slice p1 n1 m1, .slice p2 n2 m2, .slice p3 n3 m3] 30)).alloc (.cells #[.int .i64 rt.kd, .slice q1 i1 j1, .slice q2 i2 j2, .slice q3 i3 j3] 30)).alloc (.cells #[.int .i64 0, .int .i64 0, .string ⟨#[]⟩, .slice none 0 0] 35) := ⟨_, rfl⟩
  have HN := three_new w (.cells #[.int .i64 wt.kd, .slice p1 n1 m1, .slice p2 n2 m2, .slice p3 n3 m3] 30) (.cells #[.int .i64 rt.kd, .slice q1 i1 j1, .slice q2 i2 j2, .slice q3 i3 j3] 30) (.cells #[.int .i64 0, .int .i64 0, .string ⟨#[]⟩, .slice none 0 0] 35)
  have hbw : Below w.heap.size w W := by rw [hW]; exact ((below_alloc w _).alloc (by simp) _).alloc (by simp; omega) _
  have hz : W.heap.size = w.heap.size + 1 + 1 + 1 := by rw [hW]; simp
  have HZ := Lib.hid hz
  rw [← hW] at HN
  have N1 := Lib.hid HN.1
  have N2 := Lib.hid HN.2.1
  have N3 := Lib.hid HN.2.2
  have BW := Lib.hid hbw
  have HW := Lib.hid hW
  have HBb := Lib.hid hb
  clear HN hbw hW hw hr hb hz
  have HK := Lib.hid (fun (w' : World) (h : Below w.heap.size w w') => And.intro (IsSh.keep (Keeps.of_below h) _ _ HWv.out) (IsSh.keep (Keeps.of_below h) _ _ HRv.out))
  cases h1 : rightB wt
  · have H1 := Lib.hid h1
    have HB : Hid (zva = x) := by show _ = _; rw [← HBb.out]; unfold witR; rw [h1]; rfl
    clear h1
    go_enter Try.func10, Try.ntmps10
    go_wp2_with fail
    rw [← HW.out]
    refine (specRight_is wt _ H1.out _ W (HK.out _ BW.out).1).mono ?_
    rintro e w1 ⟨rfl, hb1⟩
    have B1 := Lib.hid (BW.out.trans (hb1.mono BW.out.size))
    obtain ⟨r0, r1, r2, r3, _, _, _, _, rz⟩ := blk4 (blk_below N3.out hb1 (by have := HZ.out; omega))
    clear hb1
    go_wp2_with fail
    refine bodyPost_ret (v := .agg #[.int .i64 0, .int .i64 0, .string ⟨#[]⟩, .slice none 0 0]) (by simp [results, Try.results10, go_sem, r0, r1, r2, r3]) rfl ?_
    rw [← HB.out]
    exact va_end B1.out (by omega) (own_zva _ _) (by simp) List.nodup_nil
  · have H1 := Lib.hid h1
    cases h2 : rightB rt
    · have H2 := Lib.hid h2
      have HB : Hid (zva = x) := by show _ = _; rw [← HBb.out]; unfold witR; rw [h1, h2]; rfl
      clear h1 h2
      go_enter Try.func10, Try.ntmps10
      go_wp2_with fail
      rw [← HW.out]
      refine (specRight_is wt _ H1.out _ W (HK.out _ BW.out).1).mono ?_
      rintro e w1 ⟨rfl, hb1⟩
      have B1 := Lib.hid (BW.out.trans (hb1.mono BW.out.size))
      obtain ⟨y0, y1, y2, y3, _, _, _, _, yz⟩ := blk4 (blk_below N2.out hb1 (blk4 N2.out).2.2.2.2.2.2.2.2)
      have P3 := Lib.hid (blk_below N3.out hb1 (by have := HZ.out; omega))
      clear hb1
      go_wp2_with fail
      refine (specRight_is rt _ H2.out _ w1 (HK.out _ B1.out).2).mono ?_
      rintro e w2 ⟨rfl, hb2⟩
      have B2 := Lib.hid (B1.out.trans (hb2.mono B1.out.size))
      obtain ⟨r0, r1, r2, r3, _, _, _, _, rz⟩ := blk4 (blk_below P3.out hb2 (blk4 P3.out).2.2.2.2.2.2.2.2)
      clear hb2
      go_wp2_with fail
      refine bodyPost_ret (v := .agg #[.int .i64 0, .int .i64 0, .string ⟨#[]⟩, .slice none 0 0]) (by simp [results, Try.results10, go_sem, r0, r1, r2, r3]) rfl ?_
      rw [← HB.out]
      exact va_end B2.out (by omega) (own_zva _ _) (by simp) List.nodup_nil
    · have H2 := Lib.hid h2
      obtain ⟨U, hU⟩ : ∃ U, wnB 10 wt rt = U := ⟨_, rfl⟩
      have HB : Hid (U.getD zva = x) := by show _ = _; rw [← HBb.out]; unfold witR; rw [h1, h2, hU]; rfl
      have HU := Lib.hid hU
      clear h1 h2 hU
      go_enter Try.func10, Try.ntmps10
      go_wp2_with fail
      rw [← HW.out]
      refine (specRight_is wt _ H1.out _ W (HK.out _ BW.out).1).mono ?_
      rintro e w1 ⟨rfl, hb1⟩
      have B1 := Lib.hid (BW.out.trans (hb1.mono BW.out.size))
      have P1 := Lib.hid (blk_below N1.out hb1 (blk4 N1.out).2.2.2.2.2.2.2.2)
      have P2 := Lib.hid (blk_below N2.out hb1 (blk4 N2.out).2.2.2.2.2.2.2.2)
      have P3 := Lib.hid (blk_below N3.out hb1 (by have := HZ.out; omega))
      obtain ⟨y0, y1, y2, y3, _, _, _, _, yz⟩ := blk4 P2.out
      clear hb1
      go_wp2_with fail
      refine (specRight_is rt _ H2.out _ w1 (HK.out _ B1.out).2).mono ?_
      rintro e w2 ⟨rfl, hb2⟩
      have B2 := Lib.hid (B1.out.trans (hb2.mono B1.out.size))
      have S3 := Lib.hid (blk_below P3.out hb2 (blk4 P3.out).2.2.2.2.2.2.2.2)
      clear y0 y1 y2 y3 yz
      obtain ⟨y0, y1, y2, y3, _, _, _, _, yz⟩ := blk4 (blk_below P2.out hb2 (blk4 P2.out).2.2.2.2.2.2.2.2)
      obtain ⟨x0, x1, x2, x3, _, _, _, _, xz⟩ := blk4 (blk_below P1.out hb2 (blk4 P1.out).2.2.2.2.2.2.2.2)
      clear hb2
      go_wp2_with fail
      refine (sc_all 10 5 5 wt rt _ _ w2 (by omega) (by omega) (by omega) H1.out H2.out (HK.out _ B2.out).1 (HK.out _ B2.out).2).mono ?_
      rintro e w3 ⟨rfl, hb3⟩
      rw [HU.out]
      have B3 := Lib.hid (B2.out.trans (hb3.mono B2.out.size))
      have T3 := Lib.hid (blk_below S3.out hb3 (blk4 S3.out).2.2.2.2.2.2.2.2)
      have t0 := Keeps.of_below hb3 _ _ _ x0
      have t1 := Keeps.of_below hb3 _ _ _ x1
      have t2 := Keeps.of_below hb3 _ _ _ x2
      have t3 := Keeps.of_below hb3 _ _ _ x3
      have s0 := Keeps.of_below hb3 _ _ _ y0
      have s1 := Keeps.of_below hb3 _ _ _ y1
      have s2 := Keeps.of_below hb3 _ _ _ y2
      have s3 := Keeps.of_below hb3 _ _ _ y3
      clear hb3 x0 x1 x2 x3 xz y0 y1 y2 y3 yz
      cases U with
      | none =>
        obtain ⟨r0, r1, r2, r3, _, _, _, _, rz⟩ := blk4 T3.out
        have HZv : Hid (zva = x) := HB.out
        simp only [Option.isSome_none]
        go_wp2_with fail
        refine bodyPost_ret (v := .agg #[.int .i64 0, .int .i64 0, .string ⟨#[]⟩, .slice none 0 0]) (by simp [results, Try.results10, go_sem, r0, r1, r2, r3]) rfl ?_
        rw [← HZv.out]
        exact va_end B3.out (by omega) (own_zva _ _) (by simp) List.nodup_nil
      | some v =>
        obtain rfl : v = x := HB.out
        simp only [Option.isSome_some]
        go_wp2_with fail
        refine (sw_all 10 5 5 wt rt v _ _ w3 (by omega) (by omega) (by omega) H1.out H2.out (HK.out _ B3.out).1 (HK.out _ B3.out).2 HU.out).mono ?_
        rintro e w4 ⟨d0, d1, d2, d3, F, rfl, ho4, hn4, hb4⟩
        have lt4 := OwnVa.blocks _ _ _ ho4
        obtain ⟨r3, z3, rfl, rfl, rfl, rfl⟩ := (OwnVa.is _ _ _ ho4).cells
        have hz3 : w.heap.size + 1 + 1 < w3.heap.size := (blk4 T3.out).2.2.2.2.2.2.2.2
        have B4 := Lib.hid (B3.out.trans (hb4.mono B3.out.size))
        have HO := Lib.hid ho4
        have HNd := Lib.hid hn4
        have HF : Hid (∀ q ∈ F, q ≠ w.heap.size + 1 + 1) := fun q hq => by have := lt4 q hq; omega
        obtain ⟨r0, r1, r2, rr3, _, _, _, _, rz⟩ := blk4 (blk_below T3.out hb4 hz3)
        clear ho4 hn4 hb4 lt4
        go_wp2_with fail
        refine bodyPost_ret (v := .agg #[.int .i64 v.kd, .int .i64 v.nn, .string v.tx, .slice r3 v.it.length z3]) (by simp [results, Try.results10, go_sem, r0, r1, r2, rr3]) rfl ?_
        exact va_end B4.out (by omega) (OwnVa.move (show w.heap.size ≤ w3.heap.size by omega) _ _ _ (fun _ _ => rfl) HO.out) HF.out HNd.out
end Go.Proofs.Ytbpidhlpakobiaa
