/- Walk: spec.EditRight. -/
import Derived.Test.YtfdhmkmeffgkgaaDoorGEdA
import Derived.Test.YtfdhmkmeffgkgaaDoorGWordsW
namespace Go.Proofs.YtfdhmkmeffgkgaaDoor
open Go.RowKit

theorem isIn_any (n a b : Int) (w : World) :
    Calls Tryd.prog 47 #[.int .i64 n, .int .i64 a, .int .i64 b] w fun e w' => e = .returned (.bool (decide (a ≤ n) && decide (n ≤ b))) ∧ w = w' := by
  by_cases h1 : a ≤ n
  all_goals
    go_enter Tryd.func47, Tryd.ntmps47
    go_wp2_with fail
    go_ret
    exact ⟨ret_bool (by first | (simp [h1]; done) | (simp; omega)), rfl⟩

theorem has_at (s : ByteArray) (c : UInt8) (n : Int) (hn : n = (c.toNat : Int)) (b : Bool) (hb : letB s c = b) (w : World) (hs : s.size ≤ maxLen) :
    Calls Tryd.prog 49 #[.string s, .int .u8 n] w fun e w' => e = .returned (.bool b) ∧ w = w' := by
  subst hn; exact has_is s c b hb w hs

theorem has_lt (s : ByteArray) (n : Int) (b : Bool) (hb : letB s (UInt8.ofNat n.toNat) = b) (hn : n = ((UInt8.ofNat n.toNat).toNat : Int)) (w : World) (hs : s.size ≤ maxLen) :
    Calls Tryd.prog 49 #[.string s, .int .u8 n] w fun e w' => e = .returned (.bool b) ∧ w = w' := has_at s _ n hn b hb w hs

theorem takesB_small (k : Int) : (takesB k).size ≤ 3 := by
  unfold takesB
  repeat' split
  all_goals decide
theorem letters (k : Int) : letB (takesB k) 97 = hasPl k ∧ letB (takesB k) 110 = hasNm k ∧ letB (takesB k) 116 = hasTo k ∧ letB (takesB k) 115 = hasSh k ∧ letB (takesB k) 119 = hasWs k := by
  unfold takesB hasPl hasNm hasTo hasSh hasWs
  by_cases h1 : k = 1
  · subst h1; decide
  by_cases h2 : k = 2
  · subst h2; decide
  by_cases h3 : k = 3
  · subst h3; decide
  by_cases h4 : k = 4
  · subst h4; decide
  by_cases h5 : k = 5
  · subst h5; decide
  by_cases h6 : k = 10
  · subst h6; decide
  · simp only [h1, h2, h3, h4, h5, h6, if_false, decide_false, Bool.or_false]
    decide
theorem plIf_no (h : Bool) (n : Int) (hn : (decide (0 ≤ n) && decide (n ≤ 5)) = false) : plIf h n = false := by
  cases h
  · simp [plIf]
    intro e
    subst e
    simp at hn
  · simp [plIf] at hn ⊢
    intro h
    have := hn h
    omega
theorem plIf_yes (n : Int) (hn : (decide (0 ≤ n) && decide (n ≤ 5)) = true) : plIf true n = true := by
  simp [plIf] at hn ⊢
  omega
theorem toList_none {s : ByteArray} (h : s = ⟨#[]⟩) : s.toList.isEmpty = true := by
  rw [h, ByteArray.toList_eq]; rfl
theorem nmIf_empty (h : Bool) : nmIf h ⟨#[]⟩ = !h := by cases h <;> decide
theorem nmIf_full (h : Bool) {s : ByteArray} (hs : ¬ s = ⟨#[]⟩) : nmIf h s = (h && wordOk s.data.toList) := by
  cases h
  · exact decide_eq_false fun e => hs (size0.1 e)
  · simp [nmIf]

set_option maxRecDepth 100000 in
set_option maxHeartbeats 8000000 in
theorem specEd_is (t : Ed) (r : Bool) (hr : edOk t = r) (v : Value) (w : World) (h : IsEd w t v) :
    Calls Tryd.prog 24 #[v] w fun e w' => e = .returned (.bool r) ∧ Below w.heap.size w w' := by
  obtain ⟨p0, m0, p1, n1, m1, p2, n2, m2, p3, n3, m3, q1, i1, j1, q2, i2, j2, q3, i3, j3, rfl, _, _, y3, y4, h5, h6, h7⟩ := h
  cases t with | mk kd path pl nm tn sh ws =>
  dsimp only at *
  obtain ⟨W, hW⟩ : ∃ W, W = w.alloc (.cells #[.int .i64 kd, .slice p0 path.length m0, .int .i64 pl, .string nm, .string tn, .int .i64 sh.kd, .slice p1 n1 m1, .slice p2 n2 m2, .slice p3 n3 m3, .int .i64 ws.kd, .slice q1 i1 j1, .slice q2 i2 j2, .slice q3 i3 j3] 33) := ⟨_, rfl⟩
  have hba := below_alloc w (.cells #[.int .i64 kd, .slice p0 path.length m0, .int .i64 pl, .string nm, .string tn, .int .i64 sh.kd, .slice p1 n1 m1, .slice p2 n2 m2, .slice p3 n3 m3, .int .i64 ws.kd, .slice q1 i1 j1, .slice q2 i2 j2, .slice q3 i3 j3] 33)
  have hx := Go.Deep.blk_alloc_new w (.cells #[.int .i64 kd, .slice p0 path.length m0, .int .i64 pl, .string nm, .string tn, .int .i64 sh.kd, .slice p1 n1 m1, .slice p2 n2 m2, .slice p3 n3 m3, .int .i64 ws.kd, .slice q1 i1 j1, .slice q2 i2 j2, .slice q3 i3 j3] 33)
  rw [← hW] at hba hx
  have B0 := Lib.hid hba
  have A0 := Lib.hid hx
  have HW := Lib.hid hW
  have H5 := Lib.hid (h5.keep (Keeps.of_below hba))
  have H6 := Lib.hid h6
  have H7 := Lib.hid h7
  obtain ⟨l1, l2, l3, l4, l5⟩ := letters kd
  obtain ⟨f0, hf0⟩ : ∃ z : Bool, (hasPl kd) = z := ⟨_, rfl⟩
  obtain ⟨f1, hf1⟩ : ∃ z : Bool, (hasNm kd) = z := ⟨_, rfl⟩
  obtain ⟨f2, hf2⟩ : ∃ z : Bool, (hasTo kd) = z := ⟨_, rfl⟩
  obtain ⟨f3, hf3⟩ : ∃ z : Bool, (hasSh kd) = z := ⟨_, rfl⟩
  obtain ⟨f4, hf4⟩ : ∃ z : Bool, (hasWs kd) = z := ⟨_, rfl⟩
  obtain ⟨rk, hrk⟩ : ∃ z : Bool, (decide (1 ≤ kd) && decide (kd ≤ 10)) = z := ⟨_, rfl⟩
  obtain ⟨rp, hrp⟩ : ∃ z : Bool, (pathOk path) = z := ⟨_, rfl⟩
  obtain ⟨ra, hra⟩ : ∃ z : Bool, (plIf (hasPl kd) pl) = z := ⟨_, rfl⟩
  obtain ⟨rn, hrn⟩ : ∃ z : Bool, (nmIf (hasNm kd) nm) = z := ⟨_, rfl⟩
  obtain ⟨rt, hrt⟩ : ∃ z : Bool, (nmIf (hasTo kd) tn) = z := ⟨_, rfl⟩
  obtain ⟨rs, hrs⟩ : ∃ z : Bool, (shIf (hasSh kd) sh) = z := ⟨_, rfl⟩
  obtain ⟨rw, hrw⟩ : ∃ z : Bool, (shIf (hasWs kd) ws) = z := ⟨_, rfl⟩
  have HE : Hid (r = (rk && rp && ra && rn && rt && rs && rw)) := by show _ = _; rw [← hr, ← hrk, ← hrp, ← hra, ← hrn, ← hrt, ← hrs, ← hrw]; rfl
  rw [hf0] at hra l1
  rw [hf1] at hrn l2
  rw [hf2] at hrt l3
  rw [hf3] at hrs l4
  rw [hf4] at hrw l5
  have L1 := Lib.hid l1
  have L2 := Lib.hid l2
  have L3 := Lib.hid l3
  have L4 := Lib.hid l4
  have L5 := Lib.hid l5
  have RK := Lib.hid hrk
  have RP := Lib.hid hrp
  have RA := Lib.hid hra
  have RN := Lib.hid hrn
  have RT := Lib.hid hrt
  have RS := Lib.hid hrs
  have RW := Lib.hid hrw
  have TZ : Hid ((takesB kd).size ≤ maxLen) := by show _ ≤ _; have := takesB_small kd; unfold maxLen; omega
  obtain ⟨T, hT⟩ : ∃ T, T = takesB kd := ⟨_, rfl⟩
  rw [← hT] at L1 L2 L3 L4 L5 TZ
  have HT := Lib.hid hT
  have Y3 : Hid (nm.size ≤ maxLen) := by show _ ≤ _; unfold maxLen; omega
  have Y4 : Hid (tn.size ≤ maxLen) := by show _ ≤ _; unfold maxLen; omega
  clear hba hx hW h5 h6 h7 l1 l2 l3 l4 l5 hr y3 y4 hT hf0 hf1 hf2 hf3 hf4 hrk hrp hra hrn hrt hrs hrw
  have a0 := cel A0.out 0 rfl
  have a1 := cel A0.out 1 rfl
  have a2 := cel A0.out 2 rfl
  go_enter Tryd.func24, Tryd.ntmps24
  go_wp2_with fail
  rw [← HW.out]
  refine (takes_is kd _).mono ?_
  rintro e w' ⟨rfl, rfl⟩
  rw [← HT.out]
  go_upto_region 2 with fail
  go_cut [32] (fun x wc => x = .bool (!(rk && rp && ra)) ∧ wc = W)
  case first =>
    go_wp2_with fail
    refine (isIn_any kd 1 10 _).mono ?_
    rintro e w' ⟨rfl, rfl⟩
    rw [RK.out]
    cases rk
    · go_wp2_with fail
      go_meet
      exact ⟨by simp, rfl⟩
    go_wp2_with fail
    refine (specPath_is _ _ rp RP.out _ H5.out).mono ?_
    rintro e w' ⟨rfl, rfl⟩
    cases rp
    · go_wp2_with fail
      go_meet
      exact ⟨by simp, rfl⟩
    go_wp2_with fail
    refine (isIn_any pl 0 5 _).mono ?_
    rintro e w' ⟨rfl, rfl⟩
    cases hi : (decide (0 ≤ pl) && decide (pl ≤ 5))
    · have HA : Hid (ra = false) := RA.out.symm.trans (plIf_no f0 pl hi)
      clear hi
      go_wp2_with fail
      go_meet
      exact ⟨by rw [HA.out]; simp, rfl⟩
    have HI := Lib.hid hi
    clear hi
    go_wp2_with fail
    refine (has_is T 97 f0 L1.out _ TZ.out).mono ?_
    rintro e w' ⟨rfl, rfl⟩
    cases f0
    · by_cases hz : pl = 0
      · have HA : Hid (ra = true) := by show _ = _; rw [← RA.out, hz]; rfl
        subst hz
        go_wp2_with fail
        go_meet
        exact ⟨by rw [HA.out]; simp, rfl⟩
      · have HA : Hid (ra = false) := by show _ = _; rw [← RA.out]; simpa [plIf] using hz
        have hz' : (pl != 0) = true := by simpa using hz
        clear hz
        go_wp2_with fail
        go_meet
        exact ⟨by rw [HA.out]; simp, rfl⟩
    · have HA : Hid (ra = true) := RA.out.symm.trans (plIf_yes pl HI.out)
      go_wp2_with fail
      go_meet
      exact ⟨by rw [HA.out]; simp, rfl⟩
  case rest =>
    rename World => W2
    obtain ⟨rfl, hw2⟩ := hcut
    rw [hw2]
    clear hw2 W2 a0 a1 a2
    cases hall : (rk && rp && ra)
    · have HF : Hid (r = false) := by show _ = _; rw [HE.out, hall]; simp
      clear hall
      go_wp2_with fail
      go_ret
      exact ⟨ret_bool HF.out.symm, B0.out⟩
    have HE2 : Hid (r = (rn && rt && rs && rw)) := by show _ = _; rw [HE.out, hall]; simp
    clear hall
    have a3 := cel A0.out 3 rfl
    have a4 := cel A0.out 4 rfl
    go_upto_region 4 with fail
    go_cut [68] (fun x wc => x = .bool (!(rn && rt)) ∧ ∃ n, wc = W.drewN n)
    case first =>
      obtain ⟨wn, hwn⟩ : ∃ z, wordOk nm.data.toList = z := ⟨_, rfl⟩
      obtain ⟨wt, hwt⟩ : ∃ z, wordOk tn.data.toList = z := ⟨_, rfl⟩
      have WN := Lib.hid hwn
      have WT := Lib.hid hwt
      have M2 : Hid (letB T (UInt8.ofNat (110 : Int).toNat) = f1) := L2.out
      have M3 : Hid (letB T (UInt8.ofNat (116 : Int).toNat) = f2) := L3.out
      clear hwn hwt
      cases f1
      · by_cases u1 : nm = ⟨#[]⟩
        · have E1 : Hid (rn = true) := by show _ = _; rw [← RN.out, u1]; rfl
          have v1 := toList_none u1
          clear u1
          cases f2
          · by_cases u2 : tn = ⟨#[]⟩
            · have E2 : Hid (rt = true) := by show _ = _; rw [← RT.out, u2]; rfl
              have v2 := toList_none u2
              clear u2
              go_quiet (first | (go_at_call 49; exact quiet_is (has_lt T _ _ (by first | with_reducible exact M2.out | with_reducible exact M3.out) (by decide) _ TZ.out)) | (go_at_call 50; exact quiet_is (specWord_is _ _ (by first | with_reducible exact WN.out | with_reducible exact WT.out) _ (by first | with_reducible exact Y3.out | with_reducible exact Y4.out))))
              go_wp2_with fail
              go_meet
              exact ⟨by rw [E1.out, E2.out]; simp, ⟨_, rfl⟩⟩
            · have E2 : Hid (rt = false) := by show _ = _; rw [← RT.out, nmIf_full _ u2]; rfl
              have v2 := toList_full u2
              clear u2
              go_quiet (first | (go_at_call 49; exact quiet_is (has_lt T _ _ (by first | with_reducible exact M2.out | with_reducible exact M3.out) (by decide) _ TZ.out)) | (go_at_call 50; exact quiet_is (specWord_is _ _ (by first | with_reducible exact WN.out | with_reducible exact WT.out) _ (by first | with_reducible exact Y3.out | with_reducible exact Y4.out))))
              go_wp2_with fail
              go_meet
              exact ⟨by rw [E2.out]; simp, ⟨_, rfl⟩⟩
          · by_cases u2 : tn = ⟨#[]⟩
            · have E2 : Hid (rt = false) := by show _ = _; rw [← RT.out, u2]; rfl
              have v2 := toList_none u2
              clear u2
              go_quiet (first | (go_at_call 49; exact quiet_is (has_lt T _ _ (by first | with_reducible exact M2.out | with_reducible exact M3.out) (by decide) _ TZ.out)) | (go_at_call 50; exact quiet_is (specWord_is _ _ (by first | with_reducible exact WN.out | with_reducible exact WT.out) _ (by first | with_reducible exact Y3.out | with_reducible exact Y4.out))))
              go_wp2_with fail
              go_meet
              exact ⟨by rw [E2.out]; simp, ⟨_, rfl⟩⟩
            · have E2 : Hid (rt = wt) := by show _ = _; rw [← RT.out, nmIf_full _ u2, WT.out]; rfl
              have v2 := toList_full u2
              clear u2
              cases wt
              all_goals
                go_quiet (first | (go_at_call 49; exact quiet_is (has_lt T _ _ (by first | with_reducible exact M2.out | with_reducible exact M3.out) (by decide) _ TZ.out)) | (go_at_call 50; exact quiet_is (specWord_is _ _ (by first | with_reducible exact WN.out | with_reducible exact WT.out) _ (by first | with_reducible exact Y3.out | with_reducible exact Y4.out))))
                go_wp2_with fail
                go_meet
                exact ⟨by rw [E1.out, E2.out]; simp, ⟨_, rfl⟩⟩
        · have E1 : Hid (rn = false) := by show _ = _; rw [← RN.out, nmIf_full _ u1]; rfl
          have v1 := toList_full u1
          clear u1
          go_quiet (first | (go_at_call 49; exact quiet_is (has_lt T _ _ (by first | with_reducible exact M2.out | with_reducible exact M3.out) (by decide) _ TZ.out)) | (go_at_call 50; exact quiet_is (specWord_is _ _ (by first | with_reducible exact WN.out | with_reducible exact WT.out) _ (by first | with_reducible exact Y3.out | with_reducible exact Y4.out))))
          go_wp2_with fail
          go_meet
          exact ⟨by rw [E1.out]; simp, ⟨_, rfl⟩⟩
      · by_cases u1 : nm = ⟨#[]⟩
        · have E1 : Hid (rn = false) := by show _ = _; rw [← RN.out, u1]; rfl
          have v1 := toList_none u1
          clear u1
          go_quiet (first | (go_at_call 49; exact quiet_is (has_lt T _ _ (by first | with_reducible exact M2.out | with_reducible exact M3.out) (by decide) _ TZ.out)) | (go_at_call 50; exact quiet_is (specWord_is _ _ (by first | with_reducible exact WN.out | with_reducible exact WT.out) _ (by first | with_reducible exact Y3.out | with_reducible exact Y4.out))))
          go_wp2_with fail
          go_meet
          exact ⟨by rw [E1.out]; simp, ⟨_, rfl⟩⟩
        · have E1 : Hid (rn = wn) := by show _ = _; rw [← RN.out, nmIf_full _ u1, WN.out]; rfl
          have v1 := toList_full u1
          clear u1
          cases wn
          · skip
            go_quiet (first | (go_at_call 49; exact quiet_is (has_lt T _ _ (by first | with_reducible exact M2.out | with_reducible exact M3.out) (by decide) _ TZ.out)) | (go_at_call 50; exact quiet_is (specWord_is _ _ (by first | with_reducible exact WN.out | with_reducible exact WT.out) _ (by first | with_reducible exact Y3.out | with_reducible exact Y4.out))))
            go_wp2_with fail
            go_meet
            exact ⟨by rw [E1.out]; simp, ⟨_, rfl⟩⟩
          · skip
            cases f2
            · by_cases u2 : tn = ⟨#[]⟩
              · have E2 : Hid (rt = true) := by show _ = _; rw [← RT.out, u2]; rfl
                have v2 := toList_none u2
                clear u2
                go_quiet (first | (go_at_call 49; exact quiet_is (has_lt T _ _ (by first | with_reducible exact M2.out | with_reducible exact M3.out) (by decide) _ TZ.out)) | (go_at_call 50; exact quiet_is (specWord_is _ _ (by first | with_reducible exact WN.out | with_reducible exact WT.out) _ (by first | with_reducible exact Y3.out | with_reducible exact Y4.out))))
                go_wp2_with fail
                go_meet
                exact ⟨by rw [E1.out, E2.out]; simp, ⟨_, rfl⟩⟩
              · have E2 : Hid (rt = false) := by show _ = _; rw [← RT.out, nmIf_full _ u2]; rfl
                have v2 := toList_full u2
                clear u2
                go_quiet (first | (go_at_call 49; exact quiet_is (has_lt T _ _ (by first | with_reducible exact M2.out | with_reducible exact M3.out) (by decide) _ TZ.out)) | (go_at_call 50; exact quiet_is (specWord_is _ _ (by first | with_reducible exact WN.out | with_reducible exact WT.out) _ (by first | with_reducible exact Y3.out | with_reducible exact Y4.out))))
                go_wp2_with fail
                go_meet
                exact ⟨by rw [E2.out]; simp, ⟨_, rfl⟩⟩
            · by_cases u2 : tn = ⟨#[]⟩
              · have E2 : Hid (rt = false) := by show _ = _; rw [← RT.out, u2]; rfl
                have v2 := toList_none u2
                clear u2
                go_quiet (first | (go_at_call 49; exact quiet_is (has_lt T _ _ (by first | with_reducible exact M2.out | with_reducible exact M3.out) (by decide) _ TZ.out)) | (go_at_call 50; exact quiet_is (specWord_is _ _ (by first | with_reducible exact WN.out | with_reducible exact WT.out) _ (by first | with_reducible exact Y3.out | with_reducible exact Y4.out))))
                go_wp2_with fail
                go_meet
                exact ⟨by rw [E2.out]; simp, ⟨_, rfl⟩⟩
              · have E2 : Hid (rt = wt) := by show _ = _; rw [← RT.out, nmIf_full _ u2, WT.out]; rfl
                have v2 := toList_full u2
                clear u2
                cases wt
                all_goals
                  go_quiet (first | (go_at_call 49; exact quiet_is (has_lt T _ _ (by first | with_reducible exact M2.out | with_reducible exact M3.out) (by decide) _ TZ.out)) | (go_at_call 50; exact quiet_is (specWord_is _ _ (by first | with_reducible exact WN.out | with_reducible exact WT.out) _ (by first | with_reducible exact Y3.out | with_reducible exact Y4.out))))
                  go_wp2_with fail
                  go_meet
                  exact ⟨by rw [E1.out, E2.out]; simp, ⟨_, rfl⟩⟩
    case rest =>
      rename World => W2
      obtain ⟨rfl, n, hw2⟩ := hcut
      rw [hw2]
      clear hw2 W2 a3 a4
      cases hall : (rn && rt)
      · have HF : Hid (r = false) := by show _ = _; rw [HE2.out, hall]; simp
        clear hall
        go_wp2_with fail
        go_ret
        exact ⟨ret_bool HF.out.symm, below_drewN B0.out n⟩
      have HE3 : Hid (r = (rs && rw)) := by show _ = _; rw [HE2.out, hall]; simp
      clear hall
      have AD := Lib.hid (show (W.drewN n).heap[w.heap.size]? = _ from A0.out)
      have BD := Lib.hid (below_drewN B0.out n)
      have a5 := cel AD.out 5 rfl
      have a6 := cel AD.out 6 rfl
      have a7 := cel AD.out 7 rfl
      have a8 := cel AD.out 8 rfl
      go_wp2_with fail
      refine (has_is T 115 _ L4.out _ TZ.out).mono ?_
      rintro e w' ⟨rfl, rfl⟩
      cases f3
      · go_wp2_with fail
        refine (has_is T 115 _ L4.out _ TZ.out).mono ?_
        rintro e w' ⟨rfl, rfl⟩
        go_wp2_with fail
        refine (zero_is sh rs RS.out _ _ (IsSh.keep (Keeps.of_below BD.out) _ _ H6.out)).mono ?_
        rintro e w1 ⟨rfl, hb⟩
        have Aw1 := Lib.hid (blk_below AD.out hb (Array.getElem?_eq_some_iff.1 AD.out).1)
        have Bw1 := Lib.hid (BD.out.trans (hb.mono BD.out.size))
        clear hb a5 a6 a7 a8
        cases rs
        · go_wp2_with fail
          go_ret
          exact ⟨ret_bool (by rw [HE3.out]; simp), Bw1.out⟩
        · skip
          have a9 := cel Aw1.out 9 rfl
          have a10 := cel Aw1.out 10 rfl
          have a11 := cel Aw1.out 11 rfl
          have a12 := cel Aw1.out 12 rfl
          go_wp2_with fail
          refine (has_is T 119 _ L5.out _ TZ.out).mono ?_
          rintro e w' ⟨rfl, rfl⟩
          cases f4
          · go_wp2_with fail
            refine (has_is T 119 _ L5.out _ TZ.out).mono ?_
            rintro e w' ⟨rfl, rfl⟩
            go_wp2_with fail
            refine (zero_is ws rw RW.out _ _ (IsSh.keep (Keeps.of_below Bw1.out) _ _ H7.out)).mono ?_
            rintro e w2 ⟨rfl, hb⟩
            have Aw2 := Lib.hid (blk_below Aw1.out hb (Array.getElem?_eq_some_iff.1 Aw1.out).1)
            have Bw2 := Lib.hid (Bw1.out.trans (hb.mono Bw1.out.size))
            clear hb a9 a10 a11 a12
            cases rw
            · go_wp2_with fail
              go_ret
              exact ⟨ret_bool (by rw [HE3.out]; simp), Bw2.out⟩
            · skip
              go_wp2_with fail
              go_ret
              exact ⟨ret_bool (by rw [HE3.out]; simp), Bw2.out⟩
          · go_wp2_with fail
            refine (specRight_is ws rw RW.out _ _ (IsSh.keep (Keeps.of_below Bw1.out) _ _ H7.out)).mono ?_
            rintro e w2 ⟨rfl, hb⟩
            have Aw2 := Lib.hid (blk_below Aw1.out hb (Array.getElem?_eq_some_iff.1 Aw1.out).1)
            have Bw2 := Lib.hid (Bw1.out.trans (hb.mono Bw1.out.size))
            clear hb a9 a10 a11 a12
            cases rw
            · go_wp2_with fail
              refine (has_is T 119 _ L5.out _ TZ.out).mono ?_
              rintro e w' ⟨rfl, rfl⟩
              go_wp2_with fail
              go_ret
              exact ⟨ret_bool (by rw [HE3.out]; simp), Bw2.out⟩
            · skip
              go_wp2_with fail
              go_ret
              exact ⟨ret_bool (by rw [HE3.out]; simp), Bw2.out⟩
      · go_wp2_with fail
        refine (specRight_is sh rs RS.out _ _ (IsSh.keep (Keeps.of_below BD.out) _ _ H6.out)).mono ?_
        rintro e w1 ⟨rfl, hb⟩
        have Aw1 := Lib.hid (blk_below AD.out hb (Array.getElem?_eq_some_iff.1 AD.out).1)
        have Bw1 := Lib.hid (BD.out.trans (hb.mono BD.out.size))
        clear hb a5 a6 a7 a8
        cases rs
        · go_wp2_with fail
          refine (has_is T 115 _ L4.out _ TZ.out).mono ?_
          rintro e w' ⟨rfl, rfl⟩
          go_wp2_with fail
          go_ret
          exact ⟨ret_bool (by rw [HE3.out]; simp), Bw1.out⟩
        · skip
          have a9 := cel Aw1.out 9 rfl
          have a10 := cel Aw1.out 10 rfl
          have a11 := cel Aw1.out 11 rfl
          have a12 := cel Aw1.out 12 rfl
          go_wp2_with fail
          refine (has_is T 119 _ L5.out _ TZ.out).mono ?_
          rintro e w' ⟨rfl, rfl⟩
          cases f4
          · go_wp2_with fail
            refine (has_is T 119 _ L5.out _ TZ.out).mono ?_
            rintro e w' ⟨rfl, rfl⟩
            go_wp2_with fail
            refine (zero_is ws rw RW.out _ _ (IsSh.keep (Keeps.of_below Bw1.out) _ _ H7.out)).mono ?_
            rintro e w2 ⟨rfl, hb⟩
            have Aw2 := Lib.hid (blk_below Aw1.out hb (Array.getElem?_eq_some_iff.1 Aw1.out).1)
            have Bw2 := Lib.hid (Bw1.out.trans (hb.mono Bw1.out.size))
            clear hb a9 a10 a11 a12
            cases rw
            · go_wp2_with fail
              go_ret
              exact ⟨ret_bool (by rw [HE3.out]; simp), Bw2.out⟩
            · skip
              go_wp2_with fail
              go_ret
              exact ⟨ret_bool (by rw [HE3.out]; simp), Bw2.out⟩
          · go_wp2_with fail
            refine (specRight_is ws rw RW.out _ _ (IsSh.keep (Keeps.of_below Bw1.out) _ _ H7.out)).mono ?_
            rintro e w2 ⟨rfl, hb⟩
            have Aw2 := Lib.hid (blk_below Aw1.out hb (Array.getElem?_eq_some_iff.1 Aw1.out).1)
            have Bw2 := Lib.hid (Bw1.out.trans (hb.mono Bw1.out.size))
            clear hb a9 a10 a11 a12
            cases rw
            · go_wp2_with fail
              refine (has_is T 119 _ L5.out _ TZ.out).mono ?_
              rintro e w' ⟨rfl, rfl⟩
              go_wp2_with fail
              go_ret
              exact ⟨ret_bool (by rw [HE3.out]; simp), Bw2.out⟩
            · skip
              go_wp2_with fail
              go_ret
              exact ⟨ret_bool (by rw [HE3.out]; simp), Bw2.out⟩
end Go.Proofs.YtfdhmkmeffgkgaaDoor
