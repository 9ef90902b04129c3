/- Walks: what is right by a Kind: impl.atRightIf, wordRightIf, shapeRightIf; spec.l07Takes, l07Has, l07Zero, l02Is. -/
import Derived.Test.YtfdhmkmeffgkgaaDoorGEdP
import Derived.Test.YtfdhmkmeffgkgaaDoorGKindA
namespace Go.Proofs.YtfdhmkmeffgkgaaDoor
open Go.RowKit

theorem plIf_is (h : Bool) (n : Int) (w : World) :
    Calls Tryd.prog 56 #[.bool h, .int .i64 n] w fun e w' => e = .returned (.bool (plIf h n)) ∧ w = w' := by
  cases h
  · go_enter Tryd.func56, Tryd.ntmps56
    go_wp2_with fail
    go_ret
    exact ⟨rfl, rfl⟩
  · by_cases h1 : 0 ≤ n
    · by_cases h2 : n < 6
      · have HR : Hid (plIf true n = true) := by show _ = _; simp [plIf, h1, h2]
        go_enter Tryd.func56, Tryd.ntmps56
        go_wp2_with fail
        go_ret
        exact ⟨ret_bool HR.out.symm, rfl⟩
      · have HR : Hid (plIf true n = false) := by show _ = _; simp [plIf, h2]
        have h3 : decide (n < 6) = false := by simpa using h2
        go_enter Tryd.func56, Tryd.ntmps56
        go_wp2_with fail
        go_ret
        exact ⟨ret_bool HR.out.symm, rfl⟩
    · have HR : Hid (plIf true n = false) := by show _ = _; simp [plIf, h1]
      have h3 : decide (0 ≤ n) = false := by simpa using h1
      go_enter Tryd.func56, Tryd.ntmps56
      go_wp2_with fail
      go_ret
      exact ⟨ret_bool HR.out.symm, rfl⟩

theorem size0 {s : ByteArray} : s.size = 0 ↔ s = ⟨#[]⟩ := by
  constructor
  · intro h
    have h0 : s = ByteArray.empty := by simpa using h
    exact h0
  · rintro rfl; rfl

theorem toList_full {s : ByteArray} (h : ¬ s = ⟨#[]⟩) : s.toList.isEmpty = false := by
  cases e : s.toList with
  | nil => exact absurd (ba_list.1 (e.trans (by rw [ByteArray.toList_eq] : ([] : List UInt8) = (⟨#[]⟩ : ByteArray).toList))) h
  | cons a l => rfl

theorem nmIf_is (h : Bool) (s : ByteArray) (w : World) (hs : s.size ≤ 9223372036854775807) :
    Calls Tryd.prog 57 #[.bool h, .string s] w fun e w' => e = .returned (.bool (nmIf h s)) ∧ w = w' := by
  cases h
  · by_cases h1 : s = ⟨#[]⟩
    · subst h1
      go_enter Tryd.func57, Tryd.ntmps57
      go_wp2_with fail
      go_ret
      exact ⟨rfl, rfl⟩
    · have HR : Hid (nmIf false s = false) := by show _ = _; exact decide_eq_false fun h => h1 (size0.1 h)
      have h2 := toList_full h1
      clear h1
      go_enter Tryd.func57, Tryd.ntmps57
      go_wp2_with fail
      go_ret
      exact ⟨ret_bool HR.out.symm, rfl⟩
  · obtain ⟨b, hb⟩ : ∃ b, wordOk s.data.toList = b := ⟨_, rfl⟩
    have HB := Lib.hid hb
    clear hb
    go_enter Tryd.func57, Tryd.ntmps57
    go_wp2_with fail
    refine (implWord_is s b HB.out _ (by unfold maxLen; omega)).mono ?_
    rintro e w' ⟨rfl, rfl⟩
    go_wp2_with fail
    go_ret
    exact ⟨ret_bool HB.out.symm, rfl⟩

theorem Sh.lens {w : World} {t : Sh} {v : Value} (h : IsSh w t v) : ∃ p1 m1 p2 m2 p3 m3, v = .agg #[.int .i64 t.kd, .slice p1 t.sy.length m1, .slice p2 t.na.length m2, .slice p3 t.su.length m3] := by
  cases t with | mk k sy na su =>
  obtain ⟨_, _, _, _, _, _, rfl, _⟩ := h.open
  exact ⟨_, _, _, _, _, _, rfl⟩

theorem shIf_is (h : Bool) (t : Sh) (b : Bool) (hb : shIf h t = b) (v : Value) (w : World) (g : IsSh w t v) :
    Calls Tryd.prog 58 #[.bool h, v] w fun e w' => e = .returned (.bool b) ∧ Below w.heap.size w w' := by
  obtain ⟨p1, m1, p2, m2, p3, m3, rfl⟩ := Sh.lens g
  obtain ⟨W, hW⟩ : ∃ W, W = w.alloc (.cells #[.int .i64 t.kd, .slice p1 t.sy.length m1, .slice p2 t.na.length m2, .slice p3 t.su.length m3] 31) := ⟨_, rfl⟩
  have hba := below_alloc w (.cells #[.int .i64 t.kd, .slice p1 t.sy.length m1, .slice p2 t.na.length m2, .slice p3 t.su.length m3] 31)
  have hx := Go.Deep.blk_alloc_new w (.cells #[.int .i64 t.kd, .slice p1 t.sy.length m1, .slice p2 t.na.length m2, .slice p3 t.su.length m3] 31)
  rw [← hW] at hba hx
  have HB := Lib.hid hba
  have HW := Lib.hid hW
  have HX := Lib.hid hx
  have HG := Lib.hid (IsSh.keep (Keeps.of_below hba) _ _ g)
  clear hba hW hx g
  obtain ⟨a0, a1, a2, a3, _, _, _, _, _⟩ := blk4 HX.out
  cases h
  · by_cases hk : t.kd = 0
    · have hk' : (t.kd == 0) = true := by simpa using hk
      have HR : Hid ((decide (t.sy.length = 0) && (decide (t.na.length = 0) && decide (t.su.length = 0))) = b) := by
        show _ = _; rw [← hb]; simp only [shIf, shNone, hk]; simp [Bool.and_assoc]
      clear hb hk
      go_enter Tryd.func58, Tryd.ntmps58
      go_wp2_with fail
      refine (isBare_any _ _ _ _ _ _ _ _ _ _ _).mono ?_
      rintro e w1 ⟨rfl, hb1⟩
      rw [HR.out]
      rw [← HW.out] at hb1
      have B1 := Lib.hid (HB.out.trans (hb1.mono HB.out.size))
      clear hb1
      go_wp2_with fail
      go_ret
      exact ⟨rfl, B1.out⟩
    · have hk' : (t.kd == 0) = false := by simpa using hk
      have HR : Hid (b = false) := by show _ = _; rw [← hb]; simp [shIf, shNone, hk]
      clear hb hk
      go_enter Tryd.func58, Tryd.ntmps58
      go_wp2_with fail
      rw [← HW.out]
      go_ret
      exact ⟨ret_bool HR.out.symm, HB.out⟩
  · have HR : Hid (rightB t = b) := by show _ = _; rw [← hb]; rfl
    clear hb
    go_enter Tryd.func58, Tryd.ntmps58
    go_wp2_with fail
    rw [← HW.out]
    refine (implRight_is t b HR.out _ _ HG.out).mono ?_
    rintro e w1 ⟨rfl, hb1⟩
    have B1 := Lib.hid (HB.out.trans (hb1.mono HB.out.size))
    clear hb1
    go_wp2_with fail
    go_ret
    exact ⟨rfl, B1.out⟩

/-- The letters of a Kind. -/
def takesB (k : Int) : ByteArray :=
  if k = 1 then ⟨#[97, 110, 115]⟩ else if k = 2 then ⟨#[97, 110, 115]⟩ else if k = 3 then ⟨#[110, 116]⟩ else if k = 4 then ⟨#[97, 110]⟩ else if k = 5 then ⟨#[97, 110]⟩ else if k = 10 then ⟨#[115, 119]⟩ else ⟨#[]⟩
theorem takes_is (k : Int) (w : World) :
    Calls Tryd.prog 46 #[.int .i64 k] w fun e w' => e = .returned (.string (takesB k)) ∧ w = w' := by
  by_cases h1 : k = 1
  · subst h1
    go_enter Tryd.func46, Tryd.ntmps46
    go_wp2_with fail
    go_ret
    exact ⟨rfl, rfl⟩
  by_cases h2 : k = 2
  · subst h2
    go_enter Tryd.func46, Tryd.ntmps46
    go_wp2_with fail
    go_ret
    exact ⟨rfl, rfl⟩
  by_cases h3 : k = 3
  · subst h3
    go_enter Tryd.func46, Tryd.ntmps46
    go_wp2_with fail
    go_ret
    exact ⟨rfl, rfl⟩
  by_cases h4 : k = 4
  · subst h4
    go_enter Tryd.func46, Tryd.ntmps46
    go_wp2_with fail
    go_ret
    exact ⟨rfl, rfl⟩
  by_cases h5 : k = 5
  · subst h5
    go_enter Tryd.func46, Tryd.ntmps46
    go_wp2_with fail
    go_ret
    exact ⟨rfl, rfl⟩
  by_cases h6 : k = 10
  · subst h6
    go_enter Tryd.func46, Tryd.ntmps46
    go_wp2_with fail
    go_ret
    exact ⟨rfl, rfl⟩
  · have HR : Hid (takesB k = ⟨#[]⟩) := by show _ = _; simp only [takesB, h1, h2, h3, h4, h5, h6, if_false]
    have g1 : (k == 1) = false := by simpa using h1
    have g2 : (k == 2) = false := by simpa using h2
    have g3 : (k == 3) = false := by simpa using h3
    have g4 : (k == 4) = false := by simpa using h4
    have g5 : (k == 5) = false := by simpa using h5
    have g6 : (k == 10) = false := by simpa using h6
    rw [HR.out]
    clear h1 h2 h3 h4 h5 h6
    go_enter Tryd.func46, Tryd.ntmps46
    go_wp2_with fail
    go_ret
    exact ⟨rfl, rfl⟩

def letB (s : ByteArray) (c : UInt8) : Bool := s.data.toList.any (· == c)
theorem letB_no {s : ByteArray} {c : UInt8} {k : Nat} (h : s.size ≤ k) (hk : (s.data.toList.take k).any (· == c) = false) : letB s c = false := by
  unfold letB; rw [List.take_of_length_le (by rw [len_list]; exact h)] at hk; exact hk
theorem letB_yes {s : ByteArray} {c : UInt8} {k : Nat} (h : k < s.size) (hk : s[k] = c) : letB s c = true := by
  unfold letB
  refine List.any_eq_true.2 ⟨s[k], ?_, by simp [hk]⟩
  exact Array.mem_toList_iff.2 (Array.getElem_mem (xs := s.data) h)
theorem letB_snoc {s : ByteArray} {c : UInt8} {k : Nat} (h : k < s.size) (hk : (s.data.toList.take k).any (· == c) = false) (hn : ¬ s[k] = c) : (s.data.toList.take (k + 1)).any (· == c) = false := by
  have hl : k < s.data.toList.length := by rw [len_list]; exact h
  rw [List.take_succ_eq_append_getElem hl, List.any_append, hk]
  have : s.data.toList[k] = s[k] := by simp; rfl
  simp [this, hn]
set_option maxHeartbeats 400000 in
theorem has_is (s : ByteArray) (c : UInt8) (b : Bool) (hb : letB s c = b) (w : World) (hs : s.size ≤ maxLen) :
    Calls Tryd.prog 49 #[.string s, .int .u8 c.toNat] w fun e w' => e = .returned (.bool b) ∧ w = w' := by
  unfold maxLen at hs
  have HB := Lib.hid hb
  clear hb
  go_enter Tryd.func49, Tryd.ntmps49
  go_wp2
  go_loop [5] (fun i => ∃ k : Nat, k ≤ s.size ∧ i = .int .i64 k ∧ Hid ((s.data.toList.take k).any (· == c) = false)) (fun i => s.size - (intOf i).toNat)
  case atStart => exact ⟨0, Nat.zero_le _, rfl, rfl⟩
  case round =>
    obtain ⟨k, hk, rfl, HK⟩ := hrel
    by_cases hlt : k < s.size
    · by_cases h2 : s[k] = c
      · have HN := Lib.hid (letB_yes hlt h2)
        have h3 : ((s[k].toNat : Int) == (c.toNat : Int)) = true := by simp [h2]
        clear h2
        go_wp2
        go_ret
        exact ⟨ret_bool (HN.out.symm.trans HB.out), rfl⟩
      · have HN := Lib.hid (letB_snoc hlt HK.out h2)
        have h3 : ((s[k].toNat : Int) == (c.toNat : Int)) = false := by
          rw [beq_eq_false_iff_ne]; intro e; exact h2 (UInt8.toNat_inj.1 (Int.ofNat_inj.1 e))
        clear h2
        go_wp2
        go_round
        case rel => exact ⟨k + 1, hlt, by go_num, HN.out⟩
        case measure => simp [intOf]; omega
    · have HN := Lib.hid (letB_no (by omega) HK.out)
      go_wp2
      go_ret
      exact ⟨ret_bool (HN.out.symm.trans HB.out), rfl⟩

theorem zero_is (t : Sh) (b : Bool) (hb : shNone t = b) (v : Value) (w : World) (g : IsSh w t v) :
    Calls Tryd.prog 52 #[v] w fun e w' => e = .returned (.bool b) ∧ Below w.heap.size w w' := by
  obtain ⟨p1, m1, p2, m2, p3, m3, rfl⟩ := Sh.lens g
  have HB := Lib.hid (below_alloc w)
  have HR := Lib.hid hb
  clear g hb
  go_enter Tryd.func52, Tryd.ntmps52
  go_wp2_with fail
  all_goals
    go_ret
    refine ⟨?_, HB.out _⟩
    rw [← HR.out]
    unfold shNone
    simp [*]
    try (rw [Bool.eq_iff_iff]; simp)
end Go.Proofs.YtfdhmkmeffgkgaaDoor
