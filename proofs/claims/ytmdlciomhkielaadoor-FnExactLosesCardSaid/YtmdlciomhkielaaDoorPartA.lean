/- Walks: spec.l02Part at any shape; spec.ShapeRight, impl.ShapeRight. -/
import Derived.Test.YtmdlciomhkielaaDoorPartW
namespace Go.Proofs.YtmdlciomhkielaaDoor
open Go.RowKit

set_option maxRecDepth 100000 in
set_option maxHeartbeats 2000000 in
/-- spec.l02Part. -/
theorem sp_any (d : Nat) (hd : d ≤ 5) : SpAt d := by
  induction d with
  | zero =>
    intro t v w h
    cases t with | mk k sy na su =>
    obtain ⟨p1, m1, p2, m2, p3, m3, rfl, _⟩ := h.open
    have HR : Hid (partOk 0 (.mk k sy na su) = false) := by show _ = _; rfl
    clear h
    go_enter Tryd.func101, Tryd.ntmps101
    go_wp2_with fail
    go_ret
    exact ⟨ret_bool HR.out.symm, below_alloc _ _⟩
  | succ d ih =>
    intro t v w h
    have ih' := ih (by omega)
    cases t with | mk k sy na su =>
    obtain ⟨p1, m1, p2, m2, p3, m3, rfl, _, h1, h2, h3⟩ := h.open
    by_cases k1 : k = 1 ∨ k = 2 ∨ k = 3
    · have e : partOk (d + 1) (.mk k sy na su) = (decide (sy.length = 0) && (decide (na.length = 0) && decide (su.length = 0))) := by
        simp only [partOk, soundOf, if_pos k1]
        cases su with
        | nil => simp
        | cons x l => simp
      rw [e]
      exact sp_bare d k k1 _ _ _ _ _ _ _ _ _ w
    by_cases k4 : k = 4
    · subst k4
      have e : partOk (d + 1) (.mk 4 sy na su) = (wordsIn sy 1 6 && (decide (na.length = 0) && decide (su.length = 0))) := by
        rw [words_pick]
        simp only [partOk, soundOf, if_neg k1, if_true]
        cases su with
        | nil => simp [Bool.and_assoc]
        | cons x l => simp
      rw [e]
      exact sp_pick d _ _ _ _ _ _ _ _ sy w h1
    by_cases k5 : k = 5 ∨ k = 6
    · have e : partOk (d + 1) (.mk k sy na su) = ((decide (sy.length = 0) && (decide (na.length = 0) && decide (su.length = 1))) && su.all (partOk d)) := by
        simp only [partOk, soundOf, if_neg k1, if_neg k4, if_pos k5]
      rw [e]
      by_cases hc : sy.length = 0 ∧ na.length = 0 ∧ su.length = 1
      · obtain ⟨x, hx⟩ : ∃ x, su = [x] := List.length_eq_one_iff.1 hc.2.2
        have e2 : ((decide (sy.length = 0) && (decide (na.length = 0) && decide (su.length = 1))) && su.all (partOk d)) = partOk d x := by
          rw [hc.1, hc.2.1, hc.2.2, hx]; simp
        rw [e2]
        exact sp_one_yes d (by omega) ih' k k5 _ _ _ _ _ _ _ _ hc.1 hc.2.1 su x hx w h3
      · have e2 : ((decide (sy.length = 0) && (decide (na.length = 0) && decide (su.length = 1))) && su.all (partOk d)) = false := by
          rw [Bool.and_eq_false_iff]; left
          rw [Bool.eq_false_iff]
          intro he; simp at he
          exact hc ⟨by simp [he.1], by simp [he.2.1], he.2.2⟩
        rw [e2]
        exact sp_one_no d k k5 _ _ _ _ _ _ _ _ _ w hc
    by_cases k7 : k = 7
    · subst k7
      have e : partOk (d + 1) (.mk 7 sy na su) = ((decide (sy.length = 0) && (wordsIn na 0 6 && decide (su.length = na.length))) && su.all (partOk d)) := by
        rw [words_rec]
        simp only [partOk, soundOf, if_neg k1, if_neg k4, if_neg k5, if_true]
      rw [e]
      by_cases hc : sy.length = 0 ∧ su.length = na.length ∧ wordsIn na 0 6 = true
      · have e2 : ((decide (sy.length = 0) && (wordsIn na 0 6 && decide (su.length = na.length))) && su.all (partOk d)) = su.all (partOk d) := by
          rw [hc.1, hc.2.1, hc.2.2]; simp
        rw [e2]
        exact sp_rec_yes d (by omega) ih' _ _ _ _ _ _ _ _ na rfl su hc.2.1.symm w h2 h3 hc.1 hc.2.2
      · have e2 : ((decide (sy.length = 0) && (wordsIn na 0 6 && decide (su.length = na.length))) && su.all (partOk d)) = false := by
          rw [Bool.and_eq_false_iff]; left
          rw [Bool.eq_false_iff]
          intro he
          simp only [Bool.and_eq_true, decide_eq_true_iff] at he
          exact hc ⟨he.1, he.2.2, he.2.1⟩
        rw [e2]
        exact sp_rec_no d _ _ _ _ _ _ _ _ na w h2 hc
    have n1 : ¬ k = 1 := fun h => k1 (.inl h)
    have n2 : ¬ k = 2 := fun h => k1 (.inr (.inl h))
    have n3 : ¬ k = 3 := fun h => k1 (.inr (.inr h))
    have n5 : ¬ k = 5 := fun h => k5 (.inl h)
    have n6 : ¬ k = 6 := fun h => k5 (.inr h)
    have e : partOk (d + 1) (.mk k sy na su) = false := by simp [partOk, soundOf, n1, n2, n3, k4, n5, n6, k7]
    rw [e]
    have hd0 : (0 : Int) < ((d + 1 : Nat) : Int) := by omega
    have a1 : (k == 1) = false := by simpa using n1
    have a2 : (k == 2) = false := by simpa using n2
    have a3 : (k == 3) = false := by simpa using n3
    have a4 : (k == 4) = false := by simpa using k4
    have a5 : (k == 5) = false := by simpa using n5
    have a6 : (k == 6) = false := by simpa using n6
    have a7 : (k == 7) = false := by simpa using k7
    have HB := Lib.hid (below_alloc w)
    clear h h1 h2 h3 ih ih' k1 k4 k5 k7 n1 n2 n3 n5 n6 e
    go_enter Tryd.func101, Tryd.ntmps101
    go_wp2_with fail
    go_quiet (fail)
    go_wp2_with fail
    go_ret
    exact ⟨rfl, below_drewN (HB.out _) _⟩

/-- Is it right? -/
def rightB (t : Sh) : Bool := partOk 5 t

theorem IsSh.agg {w : World} {t : Sh} {v : Value} (h : IsSh w t v) : ∃ p1 n1 m1 p2 n2 m2 p3 n3 m3, v = .agg #[.int .i64 t.kd, .slice p1 n1 m1, .slice p2 n2 m2, .slice p3 n3 m3] := by
  cases t with | mk k sy na su =>
  obtain ⟨_, _, _, _, _, _, rfl, _⟩ := h.open
  exact ⟨_, _, _, _, _, _, _, _, _, rfl⟩

theorem implRight_is (t : Sh) (b : Bool) (hb : rightB t = b) (v : Value) (w : World) (h : IsSh w t v) :
    Calls Tryd.prog 36 #[v] w fun e w' => e = .returned (.bool b) ∧ Below w.heap.size w w' := by
  have HH := Lib.hid h
  obtain ⟨p1, n1, m1, p2, n2, m2, p3, n3, m3, rfl⟩ := h.agg
  have HB := Lib.hid (below_alloc w)
  have HR := Lib.hid hb
  clear h hb
  go_enter Tryd.func36, Tryd.ntmps36
  go_wp2_with fail
  refine (rw_any 5 (Nat.le_refl _) t _ _ (IsSh.keep (keeps_alloc _ _) _ _ HH.out)).mono ?_
  rintro e w1 ⟨rfl, hb1⟩
  rw [show partOk 5 t = b from HR.out]
  have HB1 := Lib.hid ((HB.out _).trans (hb1.mono (by simp)))
  clear hb1
  go_wp2_with fail
  go_ret
  exact ⟨rfl, HB1.out⟩

theorem specRight_is (t : Sh) (b : Bool) (hb : rightB t = b) (v : Value) (w : World) (h : IsSh w t v) :
    Calls Tryd.prog 68 #[v] w fun e w' => e = .returned (.bool b) ∧ Below w.heap.size w w' := by
  have HH := Lib.hid h
  obtain ⟨p1, n1, m1, p2, n2, m2, p3, n3, m3, rfl⟩ := h.agg
  have HB := Lib.hid (below_alloc w)
  have HR := Lib.hid hb
  clear h hb
  go_enter Tryd.func68, Tryd.ntmps68
  go_wp2_with fail
  refine (sp_any 5 (Nat.le_refl _) t _ _ (IsSh.keep (keeps_alloc _ _) _ _ HH.out)).mono ?_
  rintro e w1 ⟨rfl, hb1⟩
  rw [show partOk 5 t = b from HR.out]
  have HB1 := Lib.hid ((HB.out _).trans (hb1.mono (by simp)))
  clear hb1
  go_wp2_with fail
  go_ret
  exact ⟨rfl, HB1.out⟩
end Go.Proofs.YtmdlciomhkielaaDoor
