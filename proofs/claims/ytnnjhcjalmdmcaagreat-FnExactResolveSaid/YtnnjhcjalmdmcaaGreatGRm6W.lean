/- Walks: impl.readingOf, at any two right shapes. -/
import Derived.Test.YtnnjhcjalmdmcaaGreatGRm3W
import Derived.Test.YtnnjhcjalmdmcaaGreatGRm5W
namespace Go.Proofs.YtnnjhcjalmdmcaaGreat
open Go.RowKit

set_option maxRecDepth 100000 in
set_option maxHeartbeats 2000000 in
theorem ro_rec (G : RG) (hM : RM G) (n : Nat) (ih : ROf G n) (X : Nat → Prop) (z w : World) (d1 d2 : Nat) (na : List ByteArray) (su : List Sh) (na2 : List ByteArray) (su2 : List Sh) (vw vr : Value) (hd : d1 + d2 ≤ n) (h1 : d1 + 1 ≤ 5) (h2 : d2 ≤ 5) (hpw : partOk (d1 + 1) (.mk 7 [] na su) = true) (hps : su.all (partOk d1) = true) (hl : su.length = na.length) (hl2 : su2.length = na2.length) (h6 : na2.length ≤ 6) (hpr : su2.all (partOk d2) = true) (hw : IsSh z (.mk 7 [] na su) vw) (hr : IsSh z (.mk 7 [] na2 su2) vr) (he : EnvR X z w) :
    Calls Tryz.prog 36 #[vw, vr] w (MadeG G X (fun u => fitB (.mk 7 [] na su) u = true) (rdB (n + 1) (.mk 7 [] na su) (.mk 7 [] na2 su2)) (wnB (n + 1) (.mk 7 [] na su) (.mk 7 [] na2 su2)) w) := by
  have hR := fun (X : Nat → Prop) (w : World) (he : EnvR X z w) => rec_any G hM n ih X z w d1 d2 na su na2 su2 vw vr hd h1 h2 hpw hps hl hl2 h6 hpr hw hr he
  have HR := Lib.hid hR
  obtain ⟨p1, m1, p2, m2, p3, m3, rfl, _⟩ := hw.open
  obtain ⟨q1, j1, q2, j2, q3, j3, rfl, _⟩ := hr.open
  have HN := three_new w (.cells #[.int .i64 7, .slice p1 0 m1, .slice p2 na.length m2, .slice p3 su.length m3] 26) (.cells #[.int .i64 7, .slice q1 0 j1, .slice q2 na2.length j2, .slice q3 su2.length j3] 26) (.cells #[.nilFunc, .nilFunc] 67)
  obtain ⟨W, hW⟩ : ∃ W, W = ((w.alloc (.cells #[.int .i64 7, .slice p1 0 m1, .slice p2 na.length m2, .slice p3 su.length m3] 26)).alloc (.cells #[.int .i64 7, .slice q1 0 j1, .slice q2 na2.length j2, .slice q3 su2.length j3] 26)).alloc (.cells #[.nilFunc, .nilFunc] 67) := ⟨_, rfl⟩
  have hbw : Below w.heap.size w W := by rw [hW]; exact ((below_alloc w _).alloc (by simp) _).alloc (by simp; omega) _
  have hz : W.heap.size = w.heap.size + 1 + 1 + 1 := by rw [hW]; simp
  rw [← hW] at HN
  have HZ := Lib.hid hz
  have EW : Hid (EnvR (withX X (w.heap.size + 1 + 1)) z W) := he.with hbw (by omega) (by omega)
  have N3 := Lib.hid HN.2.2
  have BW := Lib.hid hbw
  have HW := Lib.hid hW
  obtain ⟨x0, x1, x2, x3, _, _, _, _, xz⟩ := blk4 HN.1
  obtain ⟨y0, y1, y2, y3, _, _, _, _, yz⟩ := blk4 HN.2.1
  clear HN hbw hz hW he hw hr hR hl hl2 h6 hpr hps hpw ih
  go_enter Tryz.func36, Tryz.ntmps36
  go_wp2_with fail
  rw [← HW.out]
  refine (HR.out (withX X (w.heap.size + 1 + 1)) W EW.out).mono ?_
  rintro e w1 ⟨f1, c1, f2, c2, rfl, hG, hb1⟩
  have B1 := Lib.hid hb1
  have G1 := Lib.hid hG
  obtain ⟨r0, r1, _, _, rz⟩ := blk2r (blk_below (w := W) N3.out hb1 (by have := HZ.out; omega))
  clear hG hb1 x0 x1 x2 x3 xz y0 y1 y2 y3 yz
  go_wp2_with fail
  refine bodyPost_ret (v := .agg #[fnv f1 c1, fnv f2 c2]) (by simp [results, Tryz.results36, go_sem, r0, r1]) rfl ?_
  exact made_endR hM G1.out (BW.out.trans (B1.out.mono BW.out.size)) (by omega) _ _

theorem fit_tx {k : Int} {sy na : List ByteArray} {su : List Sh} {u : Va} (hk : k = 1 ∨ k = 2 ∨ k = 3) (h : fitB (.mk k sy na su) u = true) : u.tx.size ≤ 8000 := by
  cases u with | mk kk n t it =>
  rcases hk with rfl | rfl | rfl
  · unfold fitB at h
    rw [if_pos rfl] at h
    simp only [numOk, Bool.and_eq_true, decide_eq_true_eq] at h
    have h1 := h.2.1.1
    omega
  · unfold fitB at h
    rw [if_neg (by decide), if_pos rfl] at h
    simp only [numOk, Bool.and_eq_true, decide_eq_true_eq] at h
    have h1 := h.2.1.1
    omega
  · unfold fitB at h
    rw [if_neg (by decide), if_neg (by decide), if_pos rfl] at h
    simp only [plainOk, Bool.and_eq_true, decide_eq_true_eq] at h
    have h1 := h.2.2.1
    rw [len_list] at h1
    omega

/-- impl.readingOf. -/
theorem ro_all (G : RG) (hM : RM G) (n : Nat) : ROf G n := by
  induction n with
  | zero =>
    intro X z w d1 d2 wt rt vw vr hd h1 h2 hpw
    obtain rfl : d1 = 0 := by omega
    simp [partOk] at hpw
  | succ n ih =>
    intro X z w d1 d2 wt rt vw vr hd h1 h2 hpw hpr hw hr he
    obtain ⟨d1', rfl⟩ : ∃ d, d1 = d + 1 := by cases d1 with | zero => simp [partOk] at hpw | succ d => exact ⟨d, rfl⟩
    obtain ⟨d2', rfl⟩ : ∃ d, d2 = d + 1 := by cases d2 with | zero => simp [partOk] at hpr | succ d => exact ⟨d, rfl⟩
    by_cases hr5 : rt.kd = 5
    · cases rt with | mk k2 sy2 na2 su2 =>
      obtain rfl : k2 = 5 := hr5
      have hpr' := hpr
      simp only [partOk, Bool.and_eq_true] at hpr
      rcases sound_cases hpr.1 with ⟨hk, _⟩ | ⟨hk, _⟩ | ⟨_, rfl, rfl, hn⟩ | ⟨hk, _⟩
      · omega
      · omega
      · obtain ⟨x, rfl⟩ := List.length_eq_one_iff.1 hn
        have hx : partOk d2' x = true := by simpa using hpr.2
        by_cases hw5 : wt.kd = 5
        · cases wt with | mk k1 sy1 na1 su1 =>
          obtain rfl : k1 = 5 := hw5
          simp only [partOk, Bool.and_eq_true] at hpw
          rcases sound_cases hpw.1 with ⟨hk, _⟩ | ⟨hk, _⟩ | ⟨_, rfl, rfl, hn1⟩ | ⟨hk, _⟩
          · omega
          · omega
          · obtain ⟨y, rfl⟩ := List.length_eq_one_iff.1 hn1
            have hy : partOk d1' y = true := by simpa using hpw.2
            exact ro_items5 G hM n ih X z w d1' d2' y x vw vr (by omega) (by omega) (by omega) hy hx hw hr he
          · omega
        · exact ro_wrap G hM n ih X z w (d1' + 1) d2' wt x vw vr (by omega) h1 (by omega) hpw hx hw hr he hw5
      · omega
    · by_cases hw5 : wt.kd = 5
      · cases wt with | mk k1 sy1 na1 su1 =>
        obtain rfl : k1 = 5 := hw5
        simp only [partOk, Bool.and_eq_true] at hpw
        rcases sound_cases hpw.1 with ⟨hk, _⟩ | ⟨hk, _⟩ | ⟨_, rfl, rfl, hn1⟩ | ⟨hk, _⟩
        · omega
        · omega
        · obtain ⟨y, rfl⟩ := List.length_eq_one_iff.1 hn1
          have hy : partOk d1' y = true := by simpa using hpw.2
          exact ro_unwrap G hM n ih X z w d1' (d2' + 1) rt y vw vr (by omega) (by omega) h2 hy hpr hw hr he hr5
        · omega
      · by_cases hne : wt.kd = rt.kd
        · cases wt with | mk k1 sy1 na1 su1 =>
          cases rt with | mk k2 sy2 na2 su2 =>
          obtain rfl : k1 = k2 := hne
          have hpw' := hpw
          simp only [partOk, Bool.and_eq_true] at hpw hpr
          obtain ⟨p1, m1, p2, m2, p3, m3, e1, _, s1, s2, s3⟩ := hw.open
          obtain ⟨q1, j1, q2, j2, q3, j3, e2, _, t1, t2, t3⟩ := hr.open
          rcases sound_cases hpw.1 with ⟨hk, _⟩ | ⟨rfl, _, _, hwd, _⟩ | ⟨hk, rfl, rfl, hn1⟩ | ⟨rfl, rfl, _, _, hl⟩
          · subst e1; subst e2
            rcases hk with rfl | rfl | rfl
            · exact ro_plain1 G hM n X z w _ _ _ _ _ _ _ _ _ _ _ _ _ _ _ _ _ _ _ _ he rfl rfl fun u hu => fit_tx (by omega) hu
            · exact ro_plain2 G hM n X z w _ _ _ _ _ _ _ _ _ _ _ _ _ _ _ _ _ _ _ _ he rfl rfl fun u hu => fit_tx (by omega) hu
            · exact ro_plain3 G hM n X z w _ _ _ _ _ _ _ _ _ _ _ _ _ _ _ _ _ _ _ _ he rfl rfl fun u hu => fit_tx (by omega) hu
          · rcases sound_cases hpr.1 with ⟨hk, _⟩ | ⟨_, _, _, hwd2, _⟩ | ⟨hk, _⟩ | ⟨hk, _⟩
            · omega
            · subst e1; subst e2
              exact ro_pick G hM n X z w _ _ _ _ _ _ _ _ _ _ _ _ _ _ _ _ _ _ _ _ he rfl rfl s1 t1 (words_size hwd) (words_size hwd2)
            · omega
            · omega
          · rcases hk with rfl | rfl
            · exact absurd rfl hw5
            · rcases sound_cases hpr.1 with ⟨hk, _⟩ | ⟨hk, _⟩ | ⟨_, rfl, rfl, hn2⟩ | ⟨hk, _⟩
              · omega
              · omega
              · obtain ⟨x, rfl⟩ := List.length_eq_one_iff.1 hn1
                obtain ⟨y, rfl⟩ := List.length_eq_one_iff.1 hn2
                exact ro_items6 G hM n ih X z w d1' d2' x y vw vr (by omega) (by omega) (by omega) (by simpa using hpw.2) (by simpa using hpr.2) hw hr he
              · omega
          · rcases sound_cases hpr.1 with ⟨hk, _⟩ | ⟨hk, _⟩ | ⟨hk, _⟩ | ⟨_, rfl, h6, _, hl2⟩
            · omega
            · omega
            · omega
            · exact ro_rec G hM n ih X z w d1' d2' na1 su1 na2 su2 vw vr (by omega) h1 (by omega) hpw' hpw.2 hl hl2 h6 hpr.2 hw hr he
        · exact ro_other G hM n X z w (d1' + 1) wt rt vw vr h1 hpw hw hr he hw5 hr5 hne
end Go.Proofs.YtnnjhcjalmdmcaaGreat
