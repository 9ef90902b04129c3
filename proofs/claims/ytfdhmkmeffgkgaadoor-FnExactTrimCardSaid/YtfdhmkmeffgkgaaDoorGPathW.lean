/- Walks: impl.PathRight, spec.PathRight. -/
import Derived.Test.YtfdhmkmeffgkgaaDoorGWoA
namespace Go.Proofs.YtfdhmkmeffgkgaaDoor
open Go.RowKit

/-- The step into the one. -/
def starS : ByteArray := ⟨#[42]⟩
/-- A step of a path. -/
def stepOk (s : ByteArray) : Bool := decide (s = starS) || wordOk s.data.toList
/-- A right path. -/
def pathOk (l : List ByteArray) : Bool := decide (l.length ≤ 5) && l.all stepOk
theorem star_ne {s : ByteArray} (h : s ≠ starS) : (s.toList == [42]) = false := by
  have h1 := ba_ne h
  rwa [show starS.toList = [42] from by rw [ByteArray.toList_eq]; rfl] at h1
theorem step_star {s : ByteArray} (h : s = starS) : stepOk s = true := by unfold stepOk; rw [decide_eq_true h]; rfl
theorem step_word {s : ByteArray} (h : s ≠ starS) : stepOk s = wordOk s.data.toList := by unfold stepOk; rw [decide_eq_false h]; rfl
theorem path_no {l : List ByteArray} {k : Nat} (h : k < l.length) (hn : stepOk l[k] = false) : pathOk l = false := by
  have : l.all stepOk = false := by rw [List.all_eq_false]; exact ⟨l[k], List.getElem_mem h, by simp [hn]⟩
  unfold pathOk; rw [this]; simp
theorem path_long {l : List ByteArray} (h : 5 < l.length) : pathOk l = false := by unfold pathOk; rw [decide_eq_false (by omega)]; rfl
theorem path_yes {l : List ByteArray} (h : l.length ≤ 5) (ha : (l.take l.length).all stepOk = true) : pathOk l = true := by
  rw [List.take_length] at ha
  unfold pathOk; rw [decide_eq_true h, ha]; rfl
theorem steps_snoc {l : List ByteArray} {k : Nat} (h : k < l.length) (hk : (l.take k).all stepOk = true) (hn : stepOk l[k] = true) : (l.take (k + 1)).all stepOk = true := by
  rw [List.take_succ_eq_append_getElem h, List.all_append, hk]; simp [hn]

set_option maxHeartbeats 1000000 in
theorem implPath_any (v : Value) (l : List ByteArray) (w : World) (h : IsStrs w v l) :
    Calls Tryd.prog 55 #[v] w fun e w' => e = .returned (.bool (pathOk l)) ∧ w = w' := by
  obtain ⟨h1, h2, a, cap, rfl, h3, h4, h6⟩ := h
  have H6 := Lib.hid h6
  have H2 := Lib.hid h2
  clear h6 h2
  by_cases hlen : 5 < l.length
  · have HR := Lib.hid (path_long hlen)
    have hl : (5 : Int) < l.length := by omega
    go_enter Tryd.func55, Tryd.ntmps55
    go_wp2_with fail
    go_ret
    exact ⟨ret_bool HR.out.symm, rfl⟩
  · have hl5 : l.length ≤ 5 := by omega
    have hl : (l.length : Int) ≤ 5 := by omega
    go_enter Tryd.func55, Tryd.ntmps55
    go_wp2_with fail
    go_loop [10] (fun i => ∃ k : Nat, k ≤ l.length ∧ i = .int .i64 k ∧ Hid ((l.take k).all stepOk = true)) (fun i => l.length - (intOf i).toNat)
    case atStart => exact ⟨0, Nat.zero_le _, rfl, rfl⟩
    case round =>
      obtain ⟨k, hk, rfl, HK⟩ := hrel
      by_cases hlt : k < l.length
      · obtain ⟨b, off, rfl, hc⟩ := IsStrs.at H6.out hlt
        have HM := Lib.hid (H2.out l[k] (List.getElem_mem hlt))
        by_cases hst : l[k] = starS
        · have HN := Lib.hid (steps_snoc hlt HK.out (step_star hst))
          rw [hst] at hc
          unfold starS at hc
          clear hst
          go_wp2_with fail
          go_round
          case rel => exact ⟨k + 1, hlt, by go_num, HN.out⟩
          case measure => simp [intOf]; omega
        · have hq := star_ne hst
          cases hw : wordOk l[k].data.toList
          · have HW := Lib.hid hw
            have HN := Lib.hid (path_no hlt ((step_word hst).trans hw))
            clear hst hw
            go_wp2_with fail
            refine (implWord_is _ _ HW.out _ (by have := HM.out; unfold maxLen; omega)).mono ?_
            rintro e w' ⟨rfl, rfl⟩
            go_wp2_with fail
            go_ret
            exact ⟨ret_bool HN.out.symm, rfl⟩
          · have HW := Lib.hid hw
            have HN := Lib.hid (steps_snoc hlt HK.out ((step_word hst).trans hw))
            clear hst hw
            go_wp2_with fail
            refine (implWord_is _ _ HW.out _ (by have := HM.out; unfold maxLen; omega)).mono ?_
            rintro e w' ⟨rfl, rfl⟩
            go_wp2_with fail
            go_round
            case rel => exact ⟨k + 1, hlt, by go_num, HN.out⟩
            case measure => simp [intOf]; omega
      · obtain rfl : k = l.length := by omega
        have HN := Lib.hid (path_yes hl5 HK.out)
        go_wp2_with fail
        go_ret
        exact ⟨ret_bool HN.out.symm, rfl⟩

set_option maxHeartbeats 1000000 in
theorem specPath_any (v : Value) (l : List ByteArray) (w : World) (h : IsStrs w v l) :
    Calls Tryd.prog 48 #[v] w fun e w' => e = .returned (.bool (pathOk l)) ∧ w = w' := by
  obtain ⟨h1, h2, a, cap, rfl, h3, h4, h6⟩ := h
  have H6 := Lib.hid h6
  have H2 := Lib.hid h2
  clear h6 h2
  go_enter Tryd.func48, Tryd.ntmps48
  go_wp2_with fail
  go_loop [3] (fun i => ∃ k : Nat, k ≤ l.length ∧ i = .int .i64 k ∧ Hid ((l.take k).all stepOk = true)) (fun i => l.length - (intOf i).toNat)
  case atStart => exact ⟨0, Nat.zero_le _, rfl, rfl⟩
  case round =>
    obtain ⟨k, hk, rfl, HK⟩ := hrel
    by_cases hlt : k < l.length
    · by_cases h5 : k ≤ 5
      · have b5 : (k : Int) ≤ 5 := by omega
        obtain ⟨b, off, rfl, hc⟩ := IsStrs.at H6.out hlt
        have HM := Lib.hid (H2.out l[k] (List.getElem_mem hlt))
        by_cases hst : l[k] = starS
        · have HN := Lib.hid (steps_snoc hlt HK.out (step_star hst))
          rw [hst] at hc
          unfold starS at hc
          clear hst
          go_wp2_with fail
          go_round
          case rel => exact ⟨k + 1, hlt, by go_num, HN.out⟩
          case measure => simp [intOf]; omega
        · have hq := star_ne hst
          cases hw : wordOk l[k].data.toList
          · have HW := Lib.hid hw
            have HN := Lib.hid (path_no hlt ((step_word hst).trans hw))
            clear hst hw
            go_wp2_with fail
            refine (specWord_is _ _ HW.out _ (by have := HM.out; unfold maxLen; omega)).mono ?_
            rintro e w' ⟨rfl, rfl⟩
            go_wp2_with fail
            go_ret
            exact ⟨ret_bool HN.out.symm, rfl⟩
          · have HW := Lib.hid hw
            have HN := Lib.hid (steps_snoc hlt HK.out ((step_word hst).trans hw))
            clear hst hw
            go_wp2_with fail
            refine (specWord_is _ _ HW.out _ (by have := HM.out; unfold maxLen; omega)).mono ?_
            rintro e w' ⟨rfl, rfl⟩
            go_wp2_with fail
            go_round
            case rel => exact ⟨k + 1, hlt, by go_num, HN.out⟩
            case measure => simp [intOf]; omega
      · have b5 : (5 : Int) < (k : Int) := by omega
        have HR : Hid (pathOk l = false) := path_long (by omega)
        have hl : decide ((l.length : Int) ≤ 5) = false := by simp; omega
        go_wp2_with fail
        go_ret
        exact ⟨ret_bool HR.out.symm, rfl⟩
    · obtain rfl : k = l.length := by omega
      by_cases h5 : l.length ≤ 5
      · have HN := Lib.hid (path_yes h5 HK.out)
        have hl : decide ((l.length : Int) ≤ 5) = true := by simp; omega
        go_wp2_with fail
        go_ret
        exact ⟨ret_bool HN.out.symm, rfl⟩
      · have HN := Lib.hid (path_long (l := l) (by omega))
        have hl : decide ((l.length : Int) ≤ 5) = false := by simp; omega
        go_wp2_with fail
        go_ret
        exact ⟨ret_bool HN.out.symm, rfl⟩
theorem implPath_is (v : Value) (l : List ByteArray) (b : Bool) (hb : pathOk l = b) (w : World) (h : IsStrs w v l) :
    Calls Tryd.prog 55 #[v] w fun e w' => e = .returned (.bool b) ∧ w = w' := by
  subst hb; exact implPath_any v l w h
theorem specPath_is (v : Value) (l : List ByteArray) (b : Bool) (hb : pathOk l = b) (w : World) (h : IsStrs w v l) :
    Calls Tryd.prog 48 #[v] w fun e w' => e = .returned (.bool b) ∧ w = w' := by
  subst hb; exact specPath_any v l w h
end Go.Proofs.YtfdhmkmeffgkgaaDoor
