/- Walks: spec.l02Part. · Walks: spec.l02Part at any shape; spec.ShapeRight, impl.ShapeRight. -/
import Derived.Test.YtfdhmkmeffgkgaaDoorGRightW
namespace Go.Proofs.YtfdhmkmeffgkgaaDoor
open Go.RowKit

def SpAt (d : Nat) : Prop := ∀ (t : Sh) (v : Value) (w : World), IsSh w t v →
  Calls Tryd.prog 67 #[v, .int .i64 d] w fun e w' => e = .returned (.bool (partOk d t)) ∧ Below w.heap.size w w'

set_option maxRecDepth 100000 in
set_option maxHeartbeats 2000000 in
theorem sp_bare (d : Nat) (k : Int) (hk : k = 1 ∨ k = 2 ∨ k = 3) (p1 p2 p3 : Option Addr) (n1 n2 n3 m1 m2 m3 : Nat) (w : World) :
    Calls Tryd.prog 67 #[.agg #[.int .i64 k, .slice p1 n1 m1, .slice p2 n2 m2, .slice p3 n3 m3], .int .i64 ((d + 1 : Nat) : Int)] w fun e w' => e = .returned (.bool (decide (n1 = 0) && (decide (n2 = 0) && decide (n3 = 0)))) ∧ Below w.heap.size w w' := by
  have hd : (0 : Int) < ((d + 1 : Nat) : Int) := by omega
  have HB := Lib.hid (below_alloc w)
  rcases hk with rfl | rfl | rfl
  all_goals
    go_enter Tryd.func67, Tryd.ntmps67
    go_wp2_with fail
    go_quiet (fail)
    go_wp2_with fail
    all_goals
      go_ret
      refine ⟨?_, below_drewN (HB.out _) _⟩
      simp [*]
      try (rw [Bool.eq_iff_iff]; simp)

theorem specWords_is (v : Value) (l : List ByteArray) (low high : Nat) (b : Bool) (hb : wordsIn l low high = b) (w : World) (h : IsStrs w v l) :
    Calls Tryd.prog 74 #[v, .int .i64 low, .int .i64 high] w fun e w' => e = .returned (.bool b) ∧ Below w.heap.size w w' := by
  subst hb; exact specWords_any v l low high w h
theorem words_pick (sy : List ByteArray) : wordsIn sy 1 6 = (decide (0 < sy.length) && wordsOk sy) := by
  unfold wordsIn wordsOk
  rw [Bool.eq_iff_iff]; simp
  constructor
  · rintro ⟨a, b, c⟩; exact ⟨by omega, c, a⟩
  · rintro ⟨a, b, c⟩; exact ⟨c, by omega, b⟩
theorem words_rec (na : List ByteArray) : wordsIn na 0 6 = wordsOk na := by
  unfold wordsIn wordsOk
  rw [Bool.eq_iff_iff]; simp; exact And.comm

set_option maxRecDepth 100000 in
set_option maxHeartbeats 2000000 in
theorem sp_pick (d : Nat) (p1 p2 p3 : Option Addr) (n2 n3 m1 m2 m3 : Nat) (sy : List ByteArray) (w : World) (hs : IsStrs w (.slice p1 sy.length m1) sy) :
    Calls Tryd.prog 67 #[.agg #[.int .i64 4, .slice p1 sy.length m1, .slice p2 n2 m2, .slice p3 n3 m3], .int .i64 ((d + 1 : Nat) : Int)] w fun e w' => e = .returned (.bool (wordsIn sy 1 6 && (decide (n2 = 0) && decide (n3 = 0)))) ∧ Below w.heap.size w w' := by
  have hd : (0 : Int) < ((d + 1 : Nat) : Int) := by omega
  have HB := Lib.hid (below_alloc w)
  have HS := Lib.hid hs
  clear hs
  cases hw : wordsIn sy 1 6
  all_goals
    have HW := Lib.hid hw
    clear hw
    go_enter Tryd.func67, Tryd.ntmps67
    go_wp2_with fail
    go_quiet (fail)
    go_wp2_with fail
    refine (specWords_is _ sy 1 6 _ HW.out _ ((HS.out.keep (keeps_alloc _ _)).keep keeps_drewN)).mono ?_
    rintro e w1 ⟨rfl, hb1⟩
    have HB1 := Lib.hid ((below_drewN (HB.out _) _).trans (hb1.mono (by simp)))
    clear hb1
    go_wp2_with fail
    all_goals
      go_ret
      refine ⟨?_, HB1.out⟩
      simp [*]
      try (rw [Bool.eq_iff_iff]; simp)

set_option maxRecDepth 100000 in
set_option maxHeartbeats 2000000 in
theorem sp_one_no (d : Nat) (k : Int) (hk : k = 5 ∨ k = 6) (p1 p2 p3 : Option Addr) (n1 n2 n3 m1 m2 m3 : Nat) (w : World) (hn : ¬ (n1 = 0 ∧ n2 = 0 ∧ n3 = 1)) :
    Calls Tryd.prog 67 #[.agg #[.int .i64 k, .slice p1 n1 m1, .slice p2 n2 m2, .slice p3 n3 m3], .int .i64 ((d + 1 : Nat) : Int)] w fun e w' => e = .returned (.bool false) ∧ Below w.heap.size w w' := by
  have hd : (0 : Int) < ((d + 1 : Nat) : Int) := by omega
  have HB := Lib.hid (below_alloc w)
  by_cases h1 : n1 = 0
  · have a1 := int_eq0 h1
    by_cases h2 : n2 = 0
    · have a2 := int_eq0 h2
      have a3 := int_ne1 (show ¬ n3 = 1 from fun h => hn ⟨h1, h2, h⟩)
      clear h1 h2 hn
      rcases hk with rfl | rfl
      all_goals
        go_enter Tryd.func67, Tryd.ntmps67
        go_wp2_with fail
        go_quiet (fail)
        go_wp2_with fail
        go_ret
        exact ⟨rfl, below_drewN (HB.out _) _⟩
    · have a2 := int_ne0 h2
      clear h1 h2 hn
      rcases hk with rfl | rfl
      all_goals
        go_enter Tryd.func67, Tryd.ntmps67
        go_wp2_with fail
        go_quiet (fail)
        go_wp2_with fail
        go_ret
        exact ⟨rfl, below_drewN (HB.out _) _⟩
  · have a1 := int_ne0 h1
    clear h1 hn
    rcases hk with rfl | rfl
    all_goals
      go_enter Tryd.func67, Tryd.ntmps67
      go_wp2_with fail
      go_quiet (fail)
      go_wp2_with fail
      go_ret
      exact ⟨rfl, below_drewN (HB.out _) _⟩

set_option maxRecDepth 100000 in
set_option maxHeartbeats 2000000 in
theorem sp_one_yes (d : Nat) (hd5 : d ≤ 5) (ih : SpAt d) (k : Int) (hk : k = 5 ∨ k = 6) (p1 p2 p3 : Option Addr) (n1 n2 m1 m2 m3 : Nat) (h1 : n1 = 0) (h2 : n2 = 0) (su : List Sh) (x : Sh) (hx : su = [x]) (w : World) (hs : IsShs w (.slice p3 su.length m3) su) :
    Calls Tryd.prog 67 #[.agg #[.int .i64 k, .slice p1 n1 m1, .slice p2 n2 m2, .slice p3 su.length m3], .int .i64 ((d + 1 : Nat) : Int)] w fun e w' => e = .returned (.bool (partOk d x)) ∧ Below w.heap.size w w' := by
  have hd : (0 : Int) < ((d + 1 : Nat) : Int) := by omega
  have hd1 : ((d + 1 : Nat) : Int) - 1 = (d : Int) := by omega
  have HB := Lib.hid (below_alloc w)
  have IH := Lib.hid ih
  obtain ⟨a, cap, he, h3, h4, h6⟩ := hs
  simp only [Value.slice.injEq] at he
  obtain ⟨rfl, _, rfl⟩ := he
  have hlen : su.length = 1 := by rw [hx]; rfl
  have h0 : 0 < su.length := by omega
  obtain ⟨b, off, rfl, c0, c1, c2, c3, g0, g1, g2, g3, g4⟩ := IsShs.at h6 h0
  have g4' : IsSh w x (.agg #[c0, c1, c2, c3]) := by subst hx; exact g4
  have K4 := Lib.hid g4'
  simp only [Nat.zero_mul, Nat.add_zero] at g0 g1 g2 g3
  have hlt : b < w.heap.size := World.block_lt_of_cell? w ⟨b, off, none⟩ g0
  have a1 := int_eq0 h1
  have a2 := int_eq0 h2
  have a3 := int_eq1 hlen
  clear g4 g4' h6 ih hlen hx h1 h2
  cases hp : partOk d x
  all_goals
    have HP := Lib.hid hp
    clear hp
    rcases hk with rfl | rfl
    all_goals
      go_enter Tryd.func67, Tryd.ntmps67
      go_wp2_with fail
      go_quiet (fail)
      go_wp2_with fail
      refine (IH.out x _ _ (IsSh.keep keeps_drewN _ _ (IsSh.keep (keeps_alloc _ _) _ _ K4.out))).mono ?_
      rintro e w1 ⟨rfl, hb1⟩
      rw [HP.out]
      have HB1 := Lib.hid ((below_drewN (HB.out _) _).trans (hb1.mono (by simp)))
      clear hb1
      go_wp2_with fail
      go_ret
      exact ⟨rfl, HB1.out⟩

theorem int_bne {n m : Nat} (h : ¬ n = m) : ((n : Int) != (m : Int)) = true := by simp; omega
theorem int_bne0 {n : Nat} (h : ¬ n = 0) : ((n : Int) != 0) = true := by simp; omega
theorem int_beq0 {n : Nat} (h : n = 0) : ((n : Int) != 0) = false := by simp [h]

set_option maxRecDepth 100000 in
set_option maxHeartbeats 2000000 in
theorem sp_rec_no (d : Nat) (p1 p2 p3 : Option Addr) (n1 n3 m1 m2 m3 : Nat) (na : List ByteArray) (w : World) (hs : IsStrs w (.slice p2 na.length m2) na) (hn : ¬ (n1 = 0 ∧ n3 = na.length ∧ wordsIn na 0 6 = true)) :
    Calls Tryd.prog 67 #[.agg #[.int .i64 7, .slice p1 n1 m1, .slice p2 na.length m2, .slice p3 n3 m3], .int .i64 ((d + 1 : Nat) : Int)] w fun e w' => e = .returned (.bool false) ∧ Below w.heap.size w w' := by
  have hd : (0 : Int) < ((d + 1 : Nat) : Int) := by omega
  have HB := Lib.hid (below_alloc w)
  have HS := Lib.hid hs
  clear hs
  by_cases h1 : n1 = 0
  · have a1 := int_beq0 h1
    by_cases h3 : n3 = na.length
    · have HW : Hid (wordsIn na 0 6 = false) := by
        cases hw : wordsIn na 0 6
        · rfl
        · exact absurd ⟨h1, h3, hw⟩ hn
      subst h3
      clear h1 hn
      go_enter Tryd.func67, Tryd.ntmps67
      go_wp2_with fail
      go_quiet (fail)
      go_wp2_with fail
      refine (specWords_is _ na 0 6 _ HW.out _ ((HS.out.keep (keeps_alloc _ _)).keep keeps_drewN)).mono ?_
      rintro e w1 ⟨rfl, hb1⟩
      have HB1 := Lib.hid ((below_drewN (HB.out _) _).trans (hb1.mono (by simp)))
      clear hb1
      go_wp2_with fail
      go_ret
      exact ⟨rfl, HB1.out⟩
    · have a3 := int_bne h3
      clear h1 h3 hn
      go_enter Tryd.func67, Tryd.ntmps67
      go_wp2_with fail
      go_quiet (fail)
      go_wp2_with fail
      go_ret
      exact ⟨rfl, below_drewN (HB.out _) _⟩
  · have a1 := int_bne0 h1
    clear h1 hn
    go_enter Tryd.func67, Tryd.ntmps67
    go_wp2_with fail
    go_quiet (fail)
    go_wp2_with fail
    go_ret
    exact ⟨rfl, below_drewN (HB.out _) _⟩

set_option maxRecDepth 100000 in
set_option maxHeartbeats 2000000 in
theorem sp_rec_yes (d : Nat) (hd5 : d ≤ 5) (ih : SpAt d) (p1 p2 p3 : Option Addr) (n1 n2 m1 m2 m3 : Nat) (na : List ByteArray) (hna : n2 = na.length) (su : List Sh) (hsu : n2 = su.length) (w : World) (hs : IsStrs w (.slice p2 n2 m2) na) (hu : IsShs w (.slice p3 su.length m3) su) (h1 : n1 = 0) (hw : wordsIn na 0 6 = true) :
    Calls Tryd.prog 67 #[.agg #[.int .i64 7, .slice p1 n1 m1, .slice p2 n2 m2, .slice p3 su.length m3], .int .i64 ((d + 1 : Nat) : Int)] w fun e w' => e = .returned (.bool (su.all (partOk d))) ∧ Below w.heap.size w w' := by
  subst hsu
  have hd : (0 : Int) < ((d + 1 : Nat) : Int) := by omega
  have hd1 : ((d + 1 : Nat) : Int) - 1 = (d : Int) := by omega
  have HB := Lib.hid (below_alloc w)
  have HS := Lib.hid hs
  have HW := Lib.hid hw
  have IH := Lib.hid ih
  have a1 := int_beq0 h1
  obtain ⟨a, cap, he, h3, h4, h6⟩ := hu
  simp only [Value.slice.injEq] at he
  obtain ⟨rfl, _, rfl⟩ := he
  have H6 := Lib.hid h6
  have hm : su.length ≤ 9223372036854775807 := by omega
  clear hs hw ih h1 hna h6
  go_enter Tryd.func67, Tryd.ntmps67
  go_wp2_with fail
  go_quiet (fail)
  go_wp2_with fail
  refine (specWords_is _ na 0 6 _ HW.out _ ((HS.out.keep (keeps_alloc _ _)).keep keeps_drewN)).mono ?_
  rintro e w1 ⟨rfl, hb1⟩
  have A1 := Lib.hid (blk_below (Go.Deep.blk_alloc_new w (.cells #[.int .i64 7, .slice p1 n1 m1, .slice p2 su.length m2, .slice p3 su.length m3] 31)) (below_drewN (Below.refl _ _) _ |>.trans hb1) (by simp))
  have HB1 := Lib.hid ((below_drewN (HB.out _) _).trans (hb1.mono (by simp)))
  clear hb1
  go_wp2_with fail
  go_loopw [8] (fun i wr => ∃ j : Nat, j ≤ su.length ∧ i = .int .i64 j ∧ Hid ((su.take j).all (partOk d) = true) ∧ Hid (Below w.heap.size w wr) ∧ Hid (wr.heap[w.heap.size]? = some (.cells #[.int .i64 7, .slice p1 n1 m1, .slice p2 su.length m2, .slice p3 su.length m3] 31 (0, 0)))) (fun i _ => su.length - (intOf i).toNat)
  case atStart => exact ⟨0, Nat.zero_le _, rfl, rfl, HB1.out, A1.out⟩
  case round =>
    obtain ⟨j, hj, rfl, HJ, HBr, HA⟩ := hrel
    by_cases hlt : j < su.length
    · obtain ⟨b, off, rfl, c0, c1, c2, c3, g0, g1, g2, g3, g4⟩ := IsShs.at H6.out hlt
      have HKp := Lib.hid (Keeps.of_below HBr.out)
      have k0 := HKp.out _ _ _ g0
      have k1 := HKp.out _ _ _ g1
      have k2 := HKp.out _ _ _ g2
      have k3 := HKp.out _ _ _ g3
      have K4 := Lib.hid (IsSh.keep HKp.out _ _ g4)
      obtain ⟨b0, b1, b2, b3, _, _, _, _, bz⟩ := blk4 HA.out
      clear g0 g1 g2 g3 g4
      cases hp : partOk d su[j]
      · have HP := Lib.hid hp
        have HN := Lib.hid (all_at_no (f := partOk d) hlt hp)
        clear hp
        go_wp2_with fail
        refine (IH.out su[j] _ _ K4.out).mono ?_
        rintro e w3 ⟨rfl, hb3⟩
        rw [HP.out]
        have HB3 := Lib.hid (HBr.out.trans (hb3.mono HBr.out.size))
        clear hb3
        go_wp2_with fail
        go_ret
        exact ⟨ret_bool HN.out.symm, HB3.out⟩
      · have HP := Lib.hid hp
        have HN := Lib.hid (all_take_succ (f := partOk d) hlt HJ.out hp)
        clear hp
        go_wp2_with fail
        refine (IH.out su[j] _ _ K4.out).mono ?_
        rintro e w3 ⟨rfl, hb3⟩
        rw [HP.out]
        have HB3 := Lib.hid (HBr.out.trans (hb3.mono HBr.out.size))
        have HA3 := Lib.hid (blk_below HA.out hb3 bz)
        clear hb3 b0 b1 b2 b3 bz
        go_wp2_with fail
        go_roundw
        case rel => exact ⟨j + 1, hlt, by go_num, HN.out, HB3.out, HA3.out⟩
        case measure => simp [intOf]; omega
    · obtain rfl : j = su.length := by omega
      have HN : Hid (su.all (partOk d) = true) := by have := HJ.out; rwa [List.take_length] at this
      go_wp2_with fail
      go_ret
      exact ⟨ret_bool HN.out.symm, HBr.out⟩
end Go.Proofs.YtfdhmkmeffgkgaaDoor
namespace Go.Proofs.YtfdhmkmeffgkgaaDoor
open Go.RowKit

set_option maxRecDepth 100000 in
set_option maxHeartbeats 2000000 in
/-- spec.l02Part. -/
theorem sp_any (d : Nat) (hd : d ≤ 5) : SpAt d := by
  induction d with
  | zero =>
    intro t v w h
    cases t with | mk k sy na su =>
    obtain ⟨p1, m1, p2, m2, p3, m3, rfl, _⟩ := h.open
    have HR : Hid (partOk 0 (.mk k sy na su) = false) := by show _ = _; rfl
    clear h
    go_enter Tryd.func67, Tryd.ntmps67
    go_wp2_with fail
    go_ret
    exact ⟨ret_bool HR.out.symm, below_alloc _ _⟩
  | succ d ih =>
    intro t v w h
    have ih' := ih (by omega)
    cases t with | mk k sy na su =>
    obtain ⟨p1, m1, p2, m2, p3, m3, rfl, _, h1, h2, h3⟩ := h.open
    by_cases k1 : k = 1 ∨ k = 2 ∨ k = 3
    · have e : partOk (d + 1) (.mk k sy na su) = (decide (sy.length = 0) && (decide (na.length = 0) && decide (su.length = 0))) := by
        simp only [partOk, soundOf, if_pos k1]
        cases su with
        | nil => simp
        | cons x l => simp
      rw [e]
      exact sp_bare d k k1 _ _ _ _ _ _ _ _ _ w
    by_cases k4 : k = 4
    · subst k4
      have e : partOk (d + 1) (.mk 4 sy na su) = (wordsIn sy 1 6 && (decide (na.length = 0) && decide (su.length = 0))) := by
        rw [words_pick]
        simp only [partOk, soundOf, if_neg k1, if_true]
        cases su with
        | nil => simp [Bool.and_assoc]
        | cons x l => simp
      rw [e]
      exact sp_pick d _ _ _ _ _ _ _ _ sy w h1
    by_cases k5 : k = 5 ∨ k = 6
    · have e : partOk (d + 1) (.mk k sy na su) = ((decide (sy.length = 0) && (decide (na.length = 0) && decide (su.length = 1))) && su.all (partOk d)) := by
        simp only [partOk, soundOf, if_neg k1, if_neg k4, if_pos k5]
      rw [e]
      by_cases hc : sy.length = 0 ∧ na.length = 0 ∧ su.length = 1
      · obtain ⟨x, hx⟩ : ∃ x, su = [x] := List.length_eq_one_iff.1 hc.2.2
        have e2 : ((decide (sy.length = 0) && (decide (na.length = 0) && decide (su.length = 1))) && su.all (partOk d)) = partOk d x := by
          rw [hc.1, hc.2.1, hc.2.2, hx]; simp
        rw [e2]
        exact sp_one_yes d (by omega) ih' k k5 _ _ _ _ _ _ _ _ hc.1 hc.2.1 su x hx w h3
      · have e2 : ((decide (sy.length = 0) && (decide (na.length = 0) && decide (su.length = 1))) && su.all (partOk d)) = false := by
          rw [Bool.and_eq_false_iff]; left
          rw [Bool.eq_false_iff]
          intro he; simp at he
          exact hc ⟨by simp [he.1], by simp [he.2.1], he.2.2⟩
        rw [e2]
        exact sp_one_no d k k5 _ _ _ _ _ _ _ _ _ w hc
    by_cases k7 : k = 7
    · subst k7
      have e : partOk (d + 1) (.mk 7 sy na su) = ((decide (sy.length = 0) && (wordsIn na 0 6 && decide (su.length = na.length))) && su.all (partOk d)) := by
        rw [words_rec]
        simp only [partOk, soundOf, if_neg k1, if_neg k4, if_neg k5, if_true]
      rw [e]
      by_cases hc : sy.length = 0 ∧ su.length = na.length ∧ wordsIn na 0 6 = true
      · have e2 : ((decide (sy.length = 0) && (wordsIn na 0 6 && decide (su.length = na.length))) && su.all (partOk d)) = su.all (partOk d) := by
          rw [hc.1, hc.2.1, hc.2.2]; simp
        rw [e2]
        exact sp_rec_yes d (by omega) ih' _ _ _ _ _ _ _ _ na rfl su hc.2.1.symm w h2 h3 hc.1 hc.2.2
      · have e2 : ((decide (sy.length = 0) && (wordsIn na 0 6 && decide (su.length = na.length))) && su.all (partOk d)) = false := by
          rw [Bool.and_eq_false_iff]; left
          rw [Bool.eq_false_iff]
          intro he
          simp only [Bool.and_eq_true, decide_eq_true_iff] at he
          exact hc ⟨he.1, he.2.2, he.2.1⟩
        rw [e2]
        exact sp_rec_no d _ _ _ _ _ _ _ _ na w h2 hc
    have n1 : ¬ k = 1 := fun h => k1 (.inl h)
    have n2 : ¬ k = 2 := fun h => k1 (.inr (.inl h))
    have n3 : ¬ k = 3 := fun h => k1 (.inr (.inr h))
    have n5 : ¬ k = 5 := fun h => k5 (.inl h)
    have n6 : ¬ k = 6 := fun h => k5 (.inr h)
    have e : partOk (d + 1) (.mk k sy na su) = false := by simp [partOk, soundOf, n1, n2, n3, k4, n5, n6, k7]
    rw [e]
    have hd0 : (0 : Int) < ((d + 1 : Nat) : Int) := by omega
    have a1 : (k == 1) = false := by simpa using n1
    have a2 : (k == 2) = false := by simpa using n2
    have a3 : (k == 3) = false := by simpa using n3
    have a4 : (k == 4) = false := by simpa using k4
    have a5 : (k == 5) = false := by simpa using n5
    have a6 : (k == 6) = false := by simpa using n6
    have a7 : (k == 7) = false := by simpa using k7
    have HB := Lib.hid (below_alloc w)
    clear h h1 h2 h3 ih ih' k1 k4 k5 k7 n1 n2 n3 n5 n6 e
    go_enter Tryd.func67, Tryd.ntmps67
    go_wp2_with fail
    go_quiet (fail)
    go_wp2_with fail
    go_ret
    exact ⟨rfl, below_drewN (HB.out _) _⟩

/-- Is it right? -/
def rightB (t : Sh) : Bool := partOk 5 t

theorem IsSh.agg {w : World} {t : Sh} {v : Value} (h : IsSh w t v) : ∃ p1 n1 m1 p2 n2 m2 p3 n3 m3, v = .agg #[.int .i64 t.kd, .slice p1 n1 m1, .slice p2 n2 m2, .slice p3 n3 m3] := by
  cases t with | mk k sy na su =>
  obtain ⟨_, _, _, _, _, _, rfl, _⟩ := h.open
  exact ⟨_, _, _, _, _, _, _, _, _, rfl⟩

theorem implRight_is (t : Sh) (b : Bool) (hb : rightB t = b) (v : Value) (w : World) (h : IsSh w t v) :
    Calls Tryd.prog 70 #[v] w fun e w' => e = .returned (.bool b) ∧ Below w.heap.size w w' := by
  have HH := Lib.hid h
  obtain ⟨p1, n1, m1, p2, n2, m2, p3, n3, m3, rfl⟩ := h.agg
  have HB := Lib.hid (below_alloc w)
  have HR := Lib.hid hb
  clear h hb
  go_enter Tryd.func70, Tryd.ntmps70
  go_wp2_with fail
  refine (rw_any 5 (Nat.le_refl _) t _ _ (IsSh.keep (keeps_alloc _ _) _ _ HH.out)).mono ?_
  rintro e w1 ⟨rfl, hb1⟩
  rw [show partOk 5 t = b from HR.out]
  have HB1 := Lib.hid ((HB.out _).trans (hb1.mono (by simp)))
  clear hb1
  go_wp2_with fail
  go_ret
  exact ⟨rfl, HB1.out⟩

theorem specRight_is (t : Sh) (b : Bool) (hb : rightB t = b) (v : Value) (w : World) (h : IsSh w t v) :
    Calls Tryd.prog 51 #[v] w fun e w' => e = .returned (.bool b) ∧ Below w.heap.size w w' := by
  have HH := Lib.hid h
  obtain ⟨p1, n1, m1, p2, n2, m2, p3, n3, m3, rfl⟩ := h.agg
  have HB := Lib.hid (below_alloc w)
  have HR := Lib.hid hb
  clear h hb
  go_enter Tryd.func51, Tryd.ntmps51
  go_wp2_with fail
  refine (sp_any 5 (Nat.le_refl _) t _ _ (IsSh.keep (keeps_alloc _ _) _ _ HH.out)).mono ?_
  rintro e w1 ⟨rfl, hb1⟩
  rw [show partOk 5 t = b from HR.out]
  have HB1 := Lib.hid ((HB.out _).trans (hb1.mono (by simp)))
  clear hb1
  go_wp2_with fail
  go_ret
  exact ⟨rfl, HB1.out⟩
end Go.Proofs.YtfdhmkmeffgkgaaDoor
