/- Walks: spec.l05Can at any two right shapes; spec.CanRead. -/
import Derived.Test.YtbpidhlpakobiaaGSc2W
import Derived.Test.YtbpidhlpakobiaaGRi1W
namespace Go.Proofs.Ytbpidhlpakobiaa
open Go.RowKit

/-- spec.l05Can. -/
theorem sc_all (n : Nat) : ScAt n := by
  induction n with
  | zero =>
    intro d1 d2 wt rt vw vr w hd h1 h2 hpw
    obtain rfl : d1 = 0 := by omega
    simp [partOk] at hpw
  | succ n ih =>
    intro d1 d2 wt rt vw vr w hd h1 h2 hpw hpr hw hr
    obtain ⟨d1', rfl⟩ : ∃ d, d1 = d + 1 := by cases d1 with | zero => simp [partOk] at hpw | succ d => exact ⟨d, rfl⟩
    obtain ⟨d2', rfl⟩ : ∃ d, d2 = d + 1 := by cases d2 with | zero => simp [partOk] at hpr | succ d => exact ⟨d, rfl⟩
    by_cases hr5 : rt.kd = 5
    · cases rt with | mk k2 sy2 na2 su2 =>
      obtain rfl : k2 = 5 := hr5
      simp only [partOk, Bool.and_eq_true] at hpr
      rcases sound_cases hpr.1 with ⟨hk, _⟩ | ⟨hk, _⟩ | ⟨_, rfl, rfl, hn⟩ | ⟨hk, _⟩
      · omega
      · omega
      · obtain ⟨x, rfl⟩ := List.length_eq_one_iff.1 hn
        have hx : partOk d2' x = true := by simpa using hpr.2
        by_cases hw5 : wt.kd = 5
        · cases wt with | mk k1 sy1 na1 su1 =>
          obtain rfl : k1 = 5 := hw5
          simp only [partOk, Bool.and_eq_true] at hpw
          rcases sound_cases hpw.1 with ⟨hk, _⟩ | ⟨hk, _⟩ | ⟨_, rfl, rfl, hn1⟩ | ⟨hk, _⟩
          · omega
          · omega
          · obtain ⟨y, rfl⟩ := List.length_eq_one_iff.1 hn1
            have hy : partOk d1' y = true := by simpa using hpw.2
            exact sc_items5 n ih w d1' d2' y x vw vr (by omega) (by omega) (by omega) hy hx hw hr
          · omega
        · exact sc_wrap n ih w (d1' + 1) d2' wt x vw vr (by omega) h1 (by omega) hpw hx hw hr hw5
      · omega
    · by_cases hne : wt.kd = rt.kd
      · cases wt with | mk k1 sy1 na1 su1 =>
        cases rt with | mk k2 sy2 na2 su2 =>
        obtain rfl : k1 = k2 := hne
        simp only [partOk, Bool.and_eq_true] at hpw hpr
        obtain ⟨p1, m1, p2, m2, p3, m3, e1, _, s1, s2, s3⟩ := hw.open
        obtain ⟨q1, j1, q2, j2, q3, j3, e2, _, t1, t2, t3⟩ := hr.open
        rcases sound_cases hpw.1 with ⟨hk, _⟩ | ⟨rfl, _⟩ | ⟨hk, rfl, rfl, hn1⟩ | ⟨rfl, rfl, _, _, hl⟩
        · subst e1; subst e2
          rcases hk with rfl | rfl | rfl
          · exact sc_plain1 n w _ _ _ _ _ _ _ _ _ _ _ _ _ _ _ _ _ _ _ _ rfl rfl
          · exact sc_plain2 n w _ _ _ _ _ _ _ _ _ _ _ _ _ _ _ _ _ _ _ _ rfl rfl
          · exact sc_plain3 n w _ _ _ _ _ _ _ _ _ _ _ _ _ _ _ _ _ _ _ _ rfl rfl
        · subst e1; subst e2
          exact sc_pick n w _ _ sy1 sy2 _ _ _ _ _ _ _ _ _ _ _ _ _ _ _ _ rfl rfl rfl rfl s1 t1
        · rcases hk with rfl | rfl
          · exact absurd rfl hr5
          · rcases sound_cases hpr.1 with ⟨hk, _⟩ | ⟨hk, _⟩ | ⟨_, rfl, rfl, hn2⟩ | ⟨hk, _⟩
            · omega
            · omega
            · obtain ⟨x, rfl⟩ := List.length_eq_one_iff.1 hn1
              obtain ⟨y, rfl⟩ := List.length_eq_one_iff.1 hn2
              exact sc_items6 n ih w d1' d2' x y vw vr (by omega) (by omega) (by omega) (by simpa using hpw.2) (by simpa using hpr.2) hw hr
            · omega
        · rcases sound_cases hpr.1 with ⟨hk, _⟩ | ⟨hk, _⟩ | ⟨hk, _⟩ | ⟨_, rfl, h6, _, hl2⟩
          · omega
          · omega
          · omega
          · exact sc_rec n ih w d1' d2' na1 su1 na2 su2 vw vr (by omega) (by omega) (by omega) hpw.2 hl hl2 hpr.2 hw hr
      · exact sc_other n w wt rt vw vr hw hr hr5 hne

set_option maxRecDepth 100000 in
set_option maxHeartbeats 1000000 in
theorem specCanRead_is (wt rt : Sh) (b : Bool) (hb : canR wt rt = b) (vw vr : Value) (w : World) (hw : IsSh w wt vw) (hr : IsSh w rt vr) :
    Calls Try.prog 6 #[vw, vr] w fun e w' => e = .returned (.bool b) ∧ Below w.heap.size w w' := by
  have HWv := Lib.hid hw
  have HRv := Lib.hid hr
  obtain ⟨p1, n1, m1, p2, n2, m2, p3, n3, m3, rfl⟩ := hw.agg
  obtain ⟨q1, i1, j1, q2, i2, j2, q3, i3, j3, rfl⟩ := hr.agg
  obtain ⟨W, hW⟩ : ∃ W, W = (w.alloc (.cells #[.int .i64 wt.kd, .slice p1 n1 m1, .slice p2 n2 m2, .slice p3 n3 m3] 30)).alloc (.cells #[.int .i64 rt.kd, .slice q1 i1 j1, .slice q2 i2 j2, .slice q3 i3 j3] 30) := ⟨_, rfl⟩
  have HN := two_new w (.cells #[.int .i64 wt.kd, .slice p1 n1 m1, .slice p2 n2 m2, .slice p3 n3 m3] 30) (.cells #[.int .i64 rt.kd, .slice q1 i1 j1, .slice q2 i2 j2, .slice q3 i3 j3] 30)
  have hbw : Below w.heap.size w W := by rw [hW]; exact (below_alloc w _).alloc (by simp) _
  rw [← hW] at HN
  have N1 := Lib.hid HN.1
  have N2 := Lib.hid HN.2
  have BW := Lib.hid hbw
  have HW := Lib.hid hW
  have HBb := Lib.hid hb
  clear HN hbw hW hw hr hb
  have HK := Lib.hid (fun (w' : World) (h : Below w.heap.size w w') => And.intro (IsSh.keep (Keeps.of_below h) _ _ HWv.out) (IsSh.keep (Keeps.of_below h) _ _ HRv.out))
  cases h1 : rightB wt
  · have H1 := Lib.hid h1
    have HB : Hid (false = b) := by show _ = _; rw [← HBb.out]; unfold canR; rw [h1]; rfl
    clear h1
    go_enter Try.func6, Try.ntmps6
    go_wp2_with fail
    rw [← HW.out]
    refine (specRight_is wt _ H1.out _ W (HK.out _ BW.out).1).mono ?_
    rintro e w1 ⟨rfl, hb1⟩
    have B1 := Lib.hid (BW.out.trans (hb1.mono BW.out.size))
    clear hb1
    go_wp2_with fail
    go_ret
    exact ⟨ret_bool HB.out, B1.out⟩
  · have H1 := Lib.hid h1
    cases h2 : rightB rt
    · have H2 := Lib.hid h2
      have HB : Hid (false = b) := by show _ = _; rw [← HBb.out]; unfold canR; rw [h1, h2]; rfl
      clear h1 h2
      go_enter Try.func6, Try.ntmps6
      go_wp2_with fail
      rw [← HW.out]
      refine (specRight_is wt _ H1.out _ W (HK.out _ BW.out).1).mono ?_
      rintro e w1 ⟨rfl, hb1⟩
      have B1 := Lib.hid (BW.out.trans (hb1.mono BW.out.size))
      obtain ⟨y0, y1, y2, y3, _, _, _, _, yz⟩ := blk4 (blk_below N2.out hb1 (blk4 N2.out).2.2.2.2.2.2.2.2)
      clear hb1
      go_wp2_with fail
      refine (specRight_is rt _ H2.out _ w1 (HK.out _ B1.out).2).mono ?_
      rintro e w2 ⟨rfl, hb2⟩
      have B2 := Lib.hid (B1.out.trans (hb2.mono B1.out.size))
      clear hb2
      go_wp2_with fail
      go_ret
      exact ⟨ret_bool HB.out, B2.out⟩
    · have H2 := Lib.hid h2
      obtain ⟨U, hU⟩ : ∃ U, wnB 10 wt rt = U := ⟨_, rfl⟩
      have HB : Hid ((!U.isSome) = b) := by show _ = _; rw [← HBb.out]; unfold canR; rw [h1, h2, hU]; rfl
      have HU := Lib.hid hU
      clear h1 h2 hU
      go_enter Try.func6, Try.ntmps6
      go_wp2_with fail
      rw [← HW.out]
      refine (specRight_is wt _ H1.out _ W (HK.out _ BW.out).1).mono ?_
      rintro e w1 ⟨rfl, hb1⟩
      have B1 := Lib.hid (BW.out.trans (hb1.mono BW.out.size))
      have P1 := Lib.hid (blk_below N1.out hb1 (blk4 N1.out).2.2.2.2.2.2.2.2)
      have P2 := Lib.hid (blk_below N2.out hb1 (blk4 N2.out).2.2.2.2.2.2.2.2)
      obtain ⟨y0, y1, y2, y3, _, _, _, _, yz⟩ := blk4 P2.out
      clear hb1
      go_wp2_with fail
      refine (specRight_is rt _ H2.out _ w1 (HK.out _ B1.out).2).mono ?_
      rintro e w2 ⟨rfl, hb2⟩
      have B2 := Lib.hid (B1.out.trans (hb2.mono B1.out.size))
      clear y0 y1 y2 y3 yz
      obtain ⟨y0, y1, y2, y3, _, _, _, _, yz⟩ := blk4 (blk_below P2.out hb2 (blk4 P2.out).2.2.2.2.2.2.2.2)
      obtain ⟨x0, x1, x2, x3, _, _, _, _, xz⟩ := blk4 (blk_below P1.out hb2 (blk4 P1.out).2.2.2.2.2.2.2.2)
      clear hb2
      go_wp2_with fail
      refine (sc_all 10 5 5 wt rt _ _ w2 (by omega) (by omega) (by omega) H1.out H2.out (HK.out _ B2.out).1 (HK.out _ B2.out).2).mono ?_
      rintro e w3 ⟨rfl, hb3⟩
      rw [HU.out, HB.out]
      have B3 := Lib.hid (B2.out.trans (hb3.mono B2.out.size))
      clear hb3 x0 x1 x2 x3 xz y0 y1 y2 y3 yz
      go_wp2_with fail
      go_ret
      exact ⟨rfl, B3.out⟩
end Go.Proofs.Ytbpidhlpakobiaa
