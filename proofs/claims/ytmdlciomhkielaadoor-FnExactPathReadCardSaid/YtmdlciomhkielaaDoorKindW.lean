/- Walks: impl.isBare, impl.isOfOne, the methods sound, impl.kindOf. -/
import Derived.Test.YtmdlciomhkielaaDoorWordsW
namespace Go.Proofs.YtmdlciomhkielaaDoor
open Go.RowKit

/-- What a kind asks of the rest. -/
def soundOf (k : Int) (sy na : List ByteArray) (n : Nat) : Bool :=
  if k = 1 ∨ k = 2 ∨ k = 3 then decide (sy.length = 0) && (decide (na.length = 0) && decide (n = 0))
  else if k = 4 then decide (0 < sy.length) && (wordsOk sy && (decide (na.length = 0) && decide (n = 0)))
  else if k = 5 ∨ k = 6 then decide (sy.length = 0) && (decide (na.length = 0) && decide (n = 1))
  else if k = 7 then decide (sy.length = 0) && (wordsOk na && decide (n = na.length))
  else false

theorem int_eq {n m : Nat} (h : n = m) : ((n : Int) == (m : Int)) = true := by simp [h]
theorem int_ne {n m : Nat} (h : ¬ n = m) : ((n : Int) == (m : Int)) = false := by simp; omega
theorem int_eq0 {n : Nat} (h : n = 0) : ((n : Int) == 0) = true := by simp [h]
theorem int_ne0 {n : Nat} (h : ¬ n = 0) : ((n : Int) == 0) = false := by simp; omega
theorem int_eq1 {n : Nat} (h : n = 1) : ((n : Int) == 1) = true := by simp [h]
theorem int_ne1 {n : Nat} (h : ¬ n = 1) : ((n : Int) == 1) = false := by simp; omega

theorem isBare_any (c0 : Value) (p1 p2 p3 : Option Addr) (n1 n2 n3 m1 m2 m3 : Nat) (w : World) :
    Calls Tryd.prog 109 #[.agg #[c0, .slice p1 n1 m1, .slice p2 n2 m2, .slice p3 n3 m3]] w fun e w' => e = .returned (.bool (decide (n1 = 0) && (decide (n2 = 0) && decide (n3 = 0)))) ∧ Below w.heap.size w w' := by
  by_cases h1 : n1 = 0
  · have a1 := int_eq0 h1
    by_cases h2 : n2 = 0
    · have a2 := int_eq0 h2
      by_cases h3 : n3 = 0
      · have a3 := int_eq0 h3
        have HR : Hid ((decide (n1 = 0) && (decide (n2 = 0) && decide (n3 = 0))) = true) := by show _ = _; simp [h1, h2, h3]
        clear h1 h2 h3
        go_enter Tryd.func109, Tryd.ntmps109
        go_wp2_with fail
        go_ret
        exact ⟨ret_bool HR.out.symm, below_alloc _ _⟩
      · have a3 := int_ne0 h3
        have HR : Hid ((decide (n1 = 0) && (decide (n2 = 0) && decide (n3 = 0))) = false) := by show _ = _; simp [h3]
        clear h1 h2 h3
        go_enter Tryd.func109, Tryd.ntmps109
        go_wp2_with fail
        go_ret
        exact ⟨ret_bool HR.out.symm, below_alloc _ _⟩
    · have a2 := int_ne0 h2
      have HR : Hid ((decide (n1 = 0) && (decide (n2 = 0) && decide (n3 = 0))) = false) := by show _ = _; simp [h2]
      clear h1 h2
      go_enter Tryd.func109, Tryd.ntmps109
      go_wp2_with fail
      go_ret
      exact ⟨ret_bool HR.out.symm, below_alloc _ _⟩
  · have a1 := int_ne0 h1
    have HR : Hid ((decide (n1 = 0) && (decide (n2 = 0) && decide (n3 = 0))) = false) := by show _ = _; simp [h1]
    clear h1
    go_enter Tryd.func109, Tryd.ntmps109
    go_wp2_with fail
    go_ret
    exact ⟨ret_bool HR.out.symm, below_alloc _ _⟩

theorem isOne_any (c0 : Value) (p1 p2 p3 : Option Addr) (n1 n2 n3 m1 m2 m3 : Nat) (w : World) :
    Calls Tryd.prog 163 #[.agg #[c0, .slice p1 n1 m1, .slice p2 n2 m2, .slice p3 n3 m3]] w fun e w' => e = .returned (.bool (decide (n1 = 0) && (decide (n2 = 0) && decide (n3 = 1)))) ∧ Below w.heap.size w w' := by
  by_cases h1 : n1 = 0
  · have a1 := int_eq0 h1
    by_cases h2 : n2 = 0
    · have a2 := int_eq0 h2
      by_cases h3 : n3 = 1
      · have a3 := int_eq1 h3
        have HR : Hid ((decide (n1 = 0) && (decide (n2 = 0) && decide (n3 = 1))) = true) := by show _ = _; simp [h1, h2, h3]
        clear h1 h2 h3
        go_enter Tryd.func163, Tryd.ntmps163
        go_wp2_with fail
        go_ret
        exact ⟨ret_bool HR.out.symm, below_alloc _ _⟩
      · have a3 := int_ne1 h3
        have HR : Hid ((decide (n1 = 0) && (decide (n2 = 0) && decide (n3 = 1))) = false) := by show _ = _; simp [h3]
        clear h1 h2 h3
        go_enter Tryd.func163, Tryd.ntmps163
        go_wp2_with fail
        go_ret
        exact ⟨ret_bool HR.out.symm, below_alloc _ _⟩
    · have a2 := int_ne0 h2
      have HR : Hid ((decide (n1 = 0) && (decide (n2 = 0) && decide (n3 = 1))) = false) := by show _ = _; simp [h2]
      clear h1 h2
      go_enter Tryd.func163, Tryd.ntmps163
      go_wp2_with fail
      go_ret
      exact ⟨ret_bool HR.out.symm, below_alloc _ _⟩
  · have a1 := int_ne0 h1
    have HR : Hid ((decide (n1 = 0) && (decide (n2 = 0) && decide (n3 = 1))) = false) := by show _ = _; simp [h1]
    clear h1
    go_enter Tryd.func163, Tryd.ntmps163
    go_wp2_with fail
    go_ret
    exact ⟨ret_bool HR.out.symm, below_alloc _ _⟩

theorem flagSound_any (c0 : Value) (p1 p2 p3 : Option Addr) (n1 n2 n3 m1 m2 m3 : Nat) (w : World) :
    Calls Tryd.prog 169 #[.agg #[c0, .slice p1 n1 m1, .slice p2 n2 m2, .slice p3 n3 m3]] w fun e w' => e = .returned (.bool (decide (n1 = 0) && (decide (n2 = 0) && decide (n3 = 0)))) ∧ Below w.heap.size w w' := by
  have HB := Lib.hid (below_alloc w)
  go_enter Tryd.func169, Tryd.ntmps169
  go_wp2_with fail
  refine (isBare_any _ _ _ _ _ _ _ _ _ _ _).mono ?_
  rintro e w1 ⟨rfl, hb1⟩
  have HB1 := Lib.hid ((HB.out _).trans (hb1.mono (by simp)))
  clear hb1
  obtain ⟨b, hb⟩ : ∃ b, (decide (n1 = 0) && (decide (n2 = 0) && decide (n3 = 0))) = b := ⟨_, rfl⟩
  have HE := Lib.hid hb
  rw [hb]
  clear hb
  go_wp2_with fail
  go_ret
  exact ⟨ret_bool HE.out.symm, HB1.out⟩

theorem numSound_any (c0 : Value) (p1 p2 p3 : Option Addr) (n1 n2 n3 m1 m2 m3 : Nat) (w : World) :
    Calls Tryd.prog 171 #[.agg #[c0, .slice p1 n1 m1, .slice p2 n2 m2, .slice p3 n3 m3]] w fun e w' => e = .returned (.bool (decide (n1 = 0) && (decide (n2 = 0) && decide (n3 = 0)))) ∧ Below w.heap.size w w' := by
  have HB := Lib.hid (below_alloc w)
  go_enter Tryd.func171, Tryd.ntmps171
  go_wp2_with fail
  refine (isBare_any _ _ _ _ _ _ _ _ _ _ _).mono ?_
  rintro e w1 ⟨rfl, hb1⟩
  have HB1 := Lib.hid ((HB.out _).trans (hb1.mono (by simp)))
  clear hb1
  obtain ⟨b, hb⟩ : ∃ b, (decide (n1 = 0) && (decide (n2 = 0) && decide (n3 = 0))) = b := ⟨_, rfl⟩
  have HE := Lib.hid hb
  rw [hb]
  clear hb
  go_wp2_with fail
  go_ret
  exact ⟨ret_bool HE.out.symm, HB1.out⟩

theorem textSound_any (c0 : Value) (p1 p2 p3 : Option Addr) (n1 n2 n3 m1 m2 m3 : Nat) (w : World) :
    Calls Tryd.prog 173 #[.agg #[c0, .slice p1 n1 m1, .slice p2 n2 m2, .slice p3 n3 m3]] w fun e w' => e = .returned (.bool (decide (n1 = 0) && (decide (n2 = 0) && decide (n3 = 0)))) ∧ Below w.heap.size w w' := by
  have HB := Lib.hid (below_alloc w)
  go_enter Tryd.func173, Tryd.ntmps173
  go_wp2_with fail
  refine (isBare_any _ _ _ _ _ _ _ _ _ _ _).mono ?_
  rintro e w1 ⟨rfl, hb1⟩
  have HB1 := Lib.hid ((HB.out _).trans (hb1.mono (by simp)))
  clear hb1
  obtain ⟨b, hb⟩ : ∃ b, (decide (n1 = 0) && (decide (n2 = 0) && decide (n3 = 0))) = b := ⟨_, rfl⟩
  have HE := Lib.hid hb
  rw [hb]
  clear hb
  go_wp2_with fail
  go_ret
  exact ⟨ret_bool HE.out.symm, HB1.out⟩

theorem maybeSound_any (c0 : Value) (p1 p2 p3 : Option Addr) (n1 n2 n3 m1 m2 m3 : Nat) (w : World) :
    Calls Tryd.prog 162 #[.agg #[c0, .slice p1 n1 m1, .slice p2 n2 m2, .slice p3 n3 m3]] w fun e w' => e = .returned (.bool (decide (n1 = 0) && (decide (n2 = 0) && decide (n3 = 1)))) ∧ Below w.heap.size w w' := by
  have HB := Lib.hid (below_alloc w)
  go_enter Tryd.func162, Tryd.ntmps162
  go_wp2_with fail
  refine (isOne_any _ _ _ _ _ _ _ _ _ _ _).mono ?_
  rintro e w1 ⟨rfl, hb1⟩
  have HB1 := Lib.hid ((HB.out _).trans (hb1.mono (by simp)))
  clear hb1
  obtain ⟨b, hb⟩ : ∃ b, (decide (n1 = 0) && (decide (n2 = 0) && decide (n3 = 1))) = b := ⟨_, rfl⟩
  have HE := Lib.hid hb
  rw [hb]
  clear hb
  go_wp2_with fail
  go_ret
  exact ⟨ret_bool HE.out.symm, HB1.out⟩

theorem listSound_any (c0 : Value) (p1 p2 p3 : Option Addr) (n1 n2 n3 m1 m2 m3 : Nat) (w : World) :
    Calls Tryd.prog 165 #[.agg #[c0, .slice p1 n1 m1, .slice p2 n2 m2, .slice p3 n3 m3]] w fun e w' => e = .returned (.bool (decide (n1 = 0) && (decide (n2 = 0) && decide (n3 = 1)))) ∧ Below w.heap.size w w' := by
  have HB := Lib.hid (below_alloc w)
  go_enter Tryd.func165, Tryd.ntmps165
  go_wp2_with fail
  refine (isOne_any _ _ _ _ _ _ _ _ _ _ _).mono ?_
  rintro e w1 ⟨rfl, hb1⟩
  have HB1 := Lib.hid ((HB.out _).trans (hb1.mono (by simp)))
  clear hb1
  obtain ⟨b, hb⟩ : ∃ b, (decide (n1 = 0) && (decide (n2 = 0) && decide (n3 = 1))) = b := ⟨_, rfl⟩
  have HE := Lib.hid hb
  rw [hb]
  clear hb
  go_wp2_with fail
  go_ret
  exact ⟨ret_bool HE.out.symm, HB1.out⟩

theorem implWords_is (v : Value) (l : List ByteArray) (b : Bool) (hb : wordsOk l = b) (w : World) (h : IsStrs w v l) :
    Calls Tryd.prog 158 #[v] w fun e w' => e = .returned (.bool b) ∧ w = w' := by
  subst hb; exact implWords_any v l w h

theorem pickSound_any (c0 : Value) (p1 p2 p3 : Option Addr) (n2 n3 m1 m2 m3 : Nat) (sy : List ByteArray) (w : World) (hs : IsStrs w (.slice p1 sy.length m1) sy) :
    Calls Tryd.prog 157 #[.agg #[c0, .slice p1 sy.length m1, .slice p2 n2 m2, .slice p3 n3 m3]] w fun e w' => e = .returned (.bool (decide (0 < sy.length) && (wordsOk sy && (decide (n2 = 0) && decide (n3 = 0))))) ∧ Below w.heap.size w w' := by
  have HS := Lib.hid hs
  clear hs
  by_cases h1 : 0 < sy.length
  · have a1 : (0 : Int) < sy.length := by omega
    cases hw : wordsOk sy
    · have HW := Lib.hid hw
      have HR : Hid ((decide (0 < sy.length) && (false && (decide (n2 = 0) && decide (n3 = 0)))) = false) := by show _ = _; simp
      clear hw h1
      go_enter Tryd.func157, Tryd.ntmps157
      go_wp2_with fail
      refine (implWords_is _ _ _ HW.out _ (HS.out.keep (keeps_alloc _ _))).mono ?_
      rintro e w' ⟨rfl, rfl⟩
      go_wp2_with fail
      go_ret
      exact ⟨ret_bool HR.out.symm, below_alloc _ _⟩
    · have HW := Lib.hid hw
      by_cases h2 : n2 = 0
      · have a2 := int_eq0 h2
        by_cases h3 : n3 = 0
        · have a3 := int_eq0 h3
          have HR : Hid ((decide (0 < sy.length) && (true && (decide (n2 = 0) && decide (n3 = 0)))) = true) := by show _ = _; simp [h1, h2, h3]
          clear hw h1 h2 h3
          go_enter Tryd.func157, Tryd.ntmps157
          go_wp2_with fail
          refine (implWords_is _ _ _ HW.out _ (HS.out.keep (keeps_alloc _ _))).mono ?_
          rintro e w' ⟨rfl, rfl⟩
          go_wp2_with fail
          go_ret
          exact ⟨ret_bool HR.out.symm, below_alloc _ _⟩
        · have a3 := int_ne0 h3
          have HR : Hid ((decide (0 < sy.length) && (true && (decide (n2 = 0) && decide (n3 = 0)))) = false) := by show _ = _; simp [h3]
          clear hw h1 h2 h3
          go_enter Tryd.func157, Tryd.ntmps157
          go_wp2_with fail
          refine (implWords_is _ _ _ HW.out _ (HS.out.keep (keeps_alloc _ _))).mono ?_
          rintro e w' ⟨rfl, rfl⟩
          go_wp2_with fail
          go_ret
          exact ⟨ret_bool HR.out.symm, below_alloc _ _⟩
      · have a2 := int_ne0 h2
        have HR : Hid ((decide (0 < sy.length) && (true && (decide (n2 = 0) && decide (n3 = 0)))) = false) := by show _ = _; simp [h2]
        clear hw h1 h2
        go_enter Tryd.func157, Tryd.ntmps157
        go_wp2_with fail
        refine (implWords_is _ _ _ HW.out _ (HS.out.keep (keeps_alloc _ _))).mono ?_
        rintro e w' ⟨rfl, rfl⟩
        go_wp2_with fail
        go_ret
        exact ⟨ret_bool HR.out.symm, below_alloc _ _⟩
  · have a1 : sy.length = 0 := by omega
    have HR : Hid ((decide (0 < sy.length) && (wordsOk sy && (decide (n2 = 0) && decide (n3 = 0)))) = false) := by show _ = _; simp [h1]
    clear h1
    go_enter Tryd.func157, Tryd.ntmps157
    go_wp2_with fail
    go_ret
    exact ⟨ret_bool HR.out.symm, below_alloc _ _⟩

theorem recSound_any (c0 : Value) (p1 p2 p3 : Option Addr) (n1 n3 m1 m2 m3 : Nat) (na : List ByteArray) (w : World) (hs : IsStrs w (.slice p2 na.length m2) na) :
    Calls Tryd.prog 167 #[.agg #[c0, .slice p1 n1 m1, .slice p2 na.length m2, .slice p3 n3 m3]] w fun e w' => e = .returned (.bool (decide (n1 = 0) && (wordsOk na && decide (n3 = na.length)))) ∧ Below w.heap.size w w' := by
  have HS := Lib.hid hs
  clear hs
  by_cases h1 : n1 = 0
  · have a1 := int_eq0 h1
    cases hw : wordsOk na
    · have HW := Lib.hid hw
      have HR : Hid ((decide (n1 = 0) && (false && decide (n3 = na.length))) = false) := by show _ = _; simp
      clear hw h1
      go_enter Tryd.func167, Tryd.ntmps167
      go_wp2_with fail
      refine (implWords_is _ _ _ HW.out _ (HS.out.keep (keeps_alloc _ _))).mono ?_
      rintro e w' ⟨rfl, rfl⟩
      go_wp2_with fail
      go_ret
      exact ⟨ret_bool HR.out.symm, below_alloc _ _⟩
    · have HW := Lib.hid hw
      by_cases h3 : n3 = na.length
      · have HR : Hid ((decide (n1 = 0) && (true && decide (n3 = na.length))) = true) := by show _ = _; simp [h1, h3]
        subst h3
        clear hw h1
        go_enter Tryd.func167, Tryd.ntmps167
        go_wp2_with fail
        refine (implWords_is _ _ _ HW.out _ (HS.out.keep (keeps_alloc _ _))).mono ?_
        rintro e w' ⟨rfl, rfl⟩
        go_wp2_with fail
        go_ret
        exact ⟨ret_bool HR.out.symm, below_alloc _ _⟩
      · have a3 := int_ne h3
        have HR : Hid ((decide (n1 = 0) && (true && decide (n3 = na.length))) = false) := by show _ = _; simp [h3]
        clear hw h1 h3
        go_enter Tryd.func167, Tryd.ntmps167
        go_wp2_with fail
        refine (implWords_is _ _ _ HW.out _ (HS.out.keep (keeps_alloc _ _))).mono ?_
        rintro e w' ⟨rfl, rfl⟩
        go_wp2_with fail
        go_ret
        exact ⟨ret_bool HR.out.symm, below_alloc _ _⟩
  · have a1 := int_ne0 h1
    have HR : Hid ((decide (n1 = 0) && (wordsOk na && decide (n3 = na.length))) = false) := by show _ = _; simp [h1]
    clear h1
    go_enter Tryd.func167, Tryd.ntmps167
    go_wp2_with fail
    go_ret
    exact ⟨ret_bool HR.out.symm, below_alloc _ _⟩
end Go.Proofs.YtmdlciomhkielaaDoor
