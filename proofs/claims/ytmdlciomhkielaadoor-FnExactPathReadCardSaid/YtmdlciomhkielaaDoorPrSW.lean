/- Walks: spec.l01Split at a stroke, spec.PathRead. -/
import Derived.Test.YtmdlciomhkielaaDoorPrP
import Derived.Test.YtmdlciomhkielaaDoorJoinSW
import Derived.Test.YtmdlciomhkielaaDoorStrsW
namespace Go.Proofs.YtmdlciomhkielaaDoor
open Go.RowKit

set_option maxRecDepth 100000 in
set_option maxHeartbeats 2000000 in
theorem split_any (t : ByteArray) (hs : t.size ≤ 8000) (w : World) :
    Calls Tryd.prog 40 #[.string t, .int .u8 47] w fun e w' => ∃ v, e = .returned v ∧ OwnStrs w' w.heap.size v (pcsB t) ∧ Below w.heap.size w w' := by
  go_enter Tryd.func40, Tryd.ntmps40
  go_wp2_with fail
  go_loopw [5, 6, 7] (fun o f i wr => ∃ (j k : Nat) (L : List ByteArray), k ≤ j ∧ j ≤ t.size ∧ i = .int .i64 j ∧ f = .int .i64 k ∧ L.length ≤ k ∧ Hid (OwnStrs wr w.heap.size o L) ∧ Hid (L.map (·.data.toList) ++ pcs (t.data.toList.drop k) = pcs t.data.toList) ∧ Hid ((47 : UInt8) ∉ (t.data.toList.drop k).take (j - k)) ∧ Hid (Below w.heap.size w wr)) (fun _ _ i _ => t.size - (intOf i).toNat)
  case atStart => exact ⟨0, 0, [], Nat.le_refl _, Nat.zero_le _, rfl, rfl, Nat.le_refl _, OwnStrs.empty w _ (Nat.le_refl _), by show _ = _; simp, by show ¬ _; simp, below_alloc w _⟩
  case round =>
    obtain ⟨j, k, L, hkj, hj, rfl, rfl, hL, HO, HP, HN, HB⟩ := hrel
    obtain ⟨p, n, m, ho⟩ := OwnStrs.slice HO.out
    rw [ho] at HO ⊢
    clear ho
    have c1 : (0 : Int) ≤ (k : Int) := by omega
    have c2 : (k : Int) ≤ (j : Int) := by omega
    have c3 : (j : Int) ≤ (t.size : Int) := by omega
    have c4 : (k : Int) ≤ (t.size : Int) := by omega
    by_cases hlt : j < t.size
    · by_cases h2 : t[j] = 47
      · have h3 : ((t[j].toNat : Int) == 47) = true := by rw [h2]; rfl
        have HS := Lib.hid (pc_more HP.out (pc_step hkj hlt h2 HN.out))
        have hxs : (t.extract k j).size ≤ 8000 := by rw [ByteArray.size_extract]; omega
        obtain ⟨x, hx⟩ : ∃ x, t.extract k j = x := ⟨_, rfl⟩
        rw [hx] at HS hxs
        have HX := Lib.hid hx
        clear h2 hx
        go_wp2_with (at_builtin; go_must (refine wpList_push wr rfl (.tmp 20) (.tmp 25) rfl w.heap.size _ L (t.extract k j) rfl HO.out rfl (by rw [HX.out]; omega) (by omega) HB.out.size ?_))
        intro v' w' hv hb
        rw [HX.out] at hv
        have HV := Lib.hid hv
        have HB2 := Lib.hid (hb _ _ HB.out (Nat.le_refl _))
        clear hv hb
        go_wp2_with fail
        go_roundw
        case rel => exact ⟨j + 1, j + 1, L ++ [x], Nat.le_refl _, hlt, by go_num, by go_num, by rw [List.length_append]; simp; omega, HV.out, HS.out, by show ¬ _; rw [Nat.sub_self, List.take_zero]; simp, HB2.out⟩
        case measure => first | (simp [intOf]; done) | (simp [intOf]; omega)
      · have h3 : ((t[j].toNat : Int) == 47) = false := by
          rw [beq_eq_false_iff_ne]; intro e; exact h2 (UInt8.toNat_inj.1 (Int.ofNat_inj.1 e))
        have HN2 := Lib.hid (pc_grow hkj hlt h2 HN.out)
        clear h2
        go_wp2_with fail
        go_roundw
        case rel => exact ⟨j + 1, k, L, by omega, hlt, by go_num, rfl, hL, HO.out, HP.out, HN2.out, HB.out⟩
        case measure => first | (simp [intOf]; done) | (simp [intOf]; omega)
    · obtain rfl : j = t.size := by omega
      have HS := Lib.hid (pc_init HP.out (pc_last HN.out))
      have hxs : (t.extract k t.size).size ≤ 8000 := by rw [ByteArray.size_extract]; omega
      obtain ⟨x, hx⟩ : ∃ x, t.extract k t.size = x := ⟨_, rfl⟩
      rw [hx] at HS hxs
      have HX := Lib.hid hx
      clear hx
      go_wp2_with (at_builtin; go_must (refine wpList_push wr rfl (.tmp 29) (.tmp 33) rfl w.heap.size _ L (t.extract k t.size) rfl HO.out rfl (by rw [HX.out]; omega) (by omega) HB.out.size ?_))
      intro v' w' hv hb
      rw [HX.out, HS.out] at hv
      have HV := Lib.hid hv
      have HB2 := Lib.hid (hb _ _ HB.out (Nat.le_refl _))
      clear hv hb
      go_wp2_with fail
      go_ret
      exact ⟨_, rfl, HV.out, HB2.out⟩

set_option maxRecDepth 100000 in
set_option maxHeartbeats 2000000 in
theorem specPathRead_is (t : ByteArray) (r : List ByteArray) (hr : prR t = r) (w : World) (ht : t.size ≤ maxLen) :
    Calls Tryd.prog 13 #[.string t] w fun e w' => ∃ v, e = .returned v ∧ OwnStrs w' w.heap.size v r ∧ Below w.heap.size w w' := by
  unfold maxLen at ht
  have emp : ∀ w1 : World, Below w.heap.size w w1 → OwnStrs (w1.alloc (.cells #[] 9)) w.heap.size (.slice (some ⟨w1.heap.size, 0, none⟩) 0 0) [] := fun w1 hb => OwnStrs.empty w1 _ hb.size
  have EMP := Lib.hid emp
  clear emp
  by_cases h1 : 8000 < t.size
  · have b1 : (8000 : Int) < (t.size : Int) := by omega
    have HE : Hid (r = []) := by show _ = _; rw [← hr]; exact prR_long h1
    clear hr h1
    go_enter Tryd.func13, Tryd.ntmps13
    go_wp2_with fail
    go_ret
    exact ⟨_, rfl, by rw [HE.out]; exact EMP.out w (Below.refl _ _), below_alloc w _⟩
  have b1 : (t.size : Int) ≤ 8000 := by omega
  by_cases h2 : t.size < 2
  · have b2 : (t.size : Int) < 2 := by omega
    have HE : Hid (r = []) := by show _ = _; rw [← hr]; exact pr_short h2
    clear hr h1 h2
    go_enter Tryd.func13, Tryd.ntmps13
    go_wp2_with fail
    go_ret
    exact ⟨_, rfl, by rw [HE.out]; exact EMP.out w (Below.refl _ _), below_alloc w _⟩
  have b2 : (2 : Int) ≤ (t.size : Int) := by omega
  have b3 : (1 : Int) ≤ (t.size : Int) := by omega
  obtain ⟨x, hx⟩ : ∃ x, restB t = x := ⟨_, rfl⟩
  have hxs : x.size ≤ 8000 := by rw [← hx]; unfold restB; rw [ByteArray.size_extract]; omega
  have HX : Hid (t.extract 1 t.size = x) := hx
  have CS := Lib.hid (split_any x hxs)
  obtain ⟨y, hy⟩ : ∃ y, pathT (pcsB x) = y := ⟨_, rfl⟩
  by_cases hq : y = t
  · have hpt := (pr_text t (by omega)).1 (by rw [hx, hy]; exact hq)
    have HE : Hid (r = pcsB x) := by show _ = _; rw [← hr, ← hx]; exact prR_good (by omega) hpt.1 hpt.2
    have HY := Lib.hid hy
    have hq2 : (y.toList == t.toList) = true := by rw [hq]; exact beq_self_eq_true _
    clear hr h1 h2 hpt hx hy
    go_enter Tryd.func13, Tryd.ntmps13
    go_wp2_with fail
    rw [HX.out]
    refine (CS.out _).mono ?_
    rintro e w1 ⟨v, rfl, ho, hb⟩
    obtain ⟨p, n, m, rfl⟩ := OwnStrs.slice ho
    have HO := Lib.hid ho
    have HB := Lib.hid hb
    clear ho hb
    go_wp2_with fail
    refine (specPathText_is _ (pcsB x) y HY.out _ HO.out.is).mono ?_
    rintro e w2 ⟨rfl, hb⟩
    have HO2 := Lib.hid (OwnStrs.block HO.out hb)
    have HB2 := Lib.hid (HB.out.trans (hb.mono HB.out.size))
    clear hb
    go_wp2_with fail
    go_ret
    exact ⟨_, rfl, by rw [HE.out]; exact HO2.out, HB2.out⟩
  · have HE : Hid (r = []) := by
      show _ = _
      rw [← hr]
      by_cases hh : t.data.toList.head? = some 47
      · refine prR_bad ?_
        cases hp : pathOk (pcsB (restB t))
        · rfl
        · exact absurd ((pr_text t (by omega)).2 ⟨hh, hp⟩) (by rw [hx, hy]; exact hq)
      · exact prR_head hh
    have HY := Lib.hid hy
    have hq2 : (y.toList == t.toList) = false := ba_ne hq
    clear hr h1 h2 hx hy hq
    go_enter Tryd.func13, Tryd.ntmps13
    go_wp2_with fail
    rw [HX.out]
    refine (CS.out _).mono ?_
    rintro e w1 ⟨v, rfl, ho, hb⟩
    obtain ⟨p, n, m, rfl⟩ := OwnStrs.slice ho
    have HO := Lib.hid ho
    have HB := Lib.hid hb
    clear ho hb
    go_wp2_with fail
    refine (specPathText_is _ (pcsB x) y HY.out _ HO.out.is).mono ?_
    rintro e w2 ⟨rfl, hb⟩
    have HB2 := Lib.hid (HB.out.trans (hb.mono HB.out.size))
    clear hb
    go_wp2_with fail
    go_ret
    exact ⟨_, rfl, by rw [HE.out]; exact EMP.out w2 HB2.out, HB2.out.alloc HB2.out.size _⟩
end Go.Proofs.YtmdlciomhkielaaDoor
