/- Walks: impl.isBare, impl.isOfOne, the methods sound, impl.kindOf. · Walks: impl.kindOf. -/
import Derived.Test.YtfdhmkmeffgkgaaDoorGWordsW
namespace Go.Proofs.YtfdhmkmeffgkgaaDoor
open Go.RowKit

/-- What a kind asks of the rest. -/
def soundOf (k : Int) (sy na : List ByteArray) (n : Nat) : Bool :=
  if k = 1 ∨ k = 2 ∨ k = 3 then decide (sy.length = 0) && (decide (na.length = 0) && decide (n = 0))
  else if k = 4 then decide (0 < sy.length) && (wordsOk sy && (decide (na.length = 0) && decide (n = 0)))
  else if k = 5 ∨ k = 6 then decide (sy.length = 0) && (decide (na.length = 0) && decide (n = 1))
  else if k = 7 then decide (sy.length = 0) && (wordsOk na && decide (n = na.length))
  else false

theorem int_eq {n m : Nat} (h : n = m) : ((n : Int) == (m : Int)) = true := by simp [h]
theorem int_ne {n m : Nat} (h : ¬ n = m) : ((n : Int) == (m : Int)) = false := by simp; omega
theorem int_eq0 {n : Nat} (h : n = 0) : ((n : Int) == 0) = true := by simp [h]
theorem int_ne0 {n : Nat} (h : ¬ n = 0) : ((n : Int) == 0) = false := by simp; omega
theorem int_eq1 {n : Nat} (h : n = 1) : ((n : Int) == 1) = true := by simp [h]
theorem int_ne1 {n : Nat} (h : ¬ n = 1) : ((n : Int) == 1) = false := by simp; omega

theorem isBare_any (c0 : Value) (p1 p2 p3 : Option Addr) (n1 n2 n3 m1 m2 m3 : Nat) (w : World) :
    Calls Tryd.prog 69 #[.agg #[c0, .slice p1 n1 m1, .slice p2 n2 m2, .slice p3 n3 m3]] w fun e w' => e = .returned (.bool (decide (n1 = 0) && (decide (n2 = 0) && decide (n3 = 0)))) ∧ Below w.heap.size w w' := by
  by_cases h1 : n1 = 0
  · have a1 := int_eq0 h1
    by_cases h2 : n2 = 0
    · have a2 := int_eq0 h2
      by_cases h3 : n3 = 0
      · have a3 := int_eq0 h3
        have HR : Hid ((decide (n1 = 0) && (decide (n2 = 0) && decide (n3 = 0))) = true) := by show _ = _; simp [h1, h2, h3]
        clear h1 h2 h3
        go_enter Tryd.func69, Tryd.ntmps69
        go_wp2_with fail
        go_ret
        exact ⟨ret_bool HR.out.symm, below_alloc _ _⟩
      · have a3 := int_ne0 h3
        have HR : Hid ((decide (n1 = 0) && (decide (n2 = 0) && decide (n3 = 0))) = false) := by show _ = _; simp [h3]
        clear h1 h2 h3
        go_enter Tryd.func69, Tryd.ntmps69
        go_wp2_with fail
        go_ret
        exact ⟨ret_bool HR.out.symm, below_alloc _ _⟩
    · have a2 := int_ne0 h2
      have HR : Hid ((decide (n1 = 0) && (decide (n2 = 0) && decide (n3 = 0))) = false) := by show _ = _; simp [h2]
      clear h1 h2
      go_enter Tryd.func69, Tryd.ntmps69
      go_wp2_with fail
      go_ret
      exact ⟨ret_bool HR.out.symm, below_alloc _ _⟩
  · have a1 := int_ne0 h1
    have HR : Hid ((decide (n1 = 0) && (decide (n2 = 0) && decide (n3 = 0))) = false) := by show _ = _; simp [h1]
    clear h1
    go_enter Tryd.func69, Tryd.ntmps69
    go_wp2_with fail
    go_ret
    exact ⟨ret_bool HR.out.symm, below_alloc _ _⟩

theorem isOne_any (c0 : Value) (p1 p2 p3 : Option Addr) (n1 n2 n3 m1 m2 m3 : Nat) (w : World) :
    Calls Tryd.prog 112 #[.agg #[c0, .slice p1 n1 m1, .slice p2 n2 m2, .slice p3 n3 m3]] w fun e w' => e = .returned (.bool (decide (n1 = 0) && (decide (n2 = 0) && decide (n3 = 1)))) ∧ Below w.heap.size w w' := by
  by_cases h1 : n1 = 0
  · have a1 := int_eq0 h1
    by_cases h2 : n2 = 0
    · have a2 := int_eq0 h2
      by_cases h3 : n3 = 1
      · have a3 := int_eq1 h3
        have HR : Hid ((decide (n1 = 0) && (decide (n2 = 0) && decide (n3 = 1))) = true) := by show _ = _; simp [h1, h2, h3]
        clear h1 h2 h3
        go_enter Tryd.func112, Tryd.ntmps112
        go_wp2_with fail
        go_ret
        exact ⟨ret_bool HR.out.symm, below_alloc _ _⟩
      · have a3 := int_ne1 h3
        have HR : Hid ((decide (n1 = 0) && (decide (n2 = 0) && decide (n3 = 1))) = false) := by show _ = _; simp [h3]
        clear h1 h2 h3
        go_enter Tryd.func112, Tryd.ntmps112
        go_wp2_with fail
        go_ret
        exact ⟨ret_bool HR.out.symm, below_alloc _ _⟩
    · have a2 := int_ne0 h2
      have HR : Hid ((decide (n1 = 0) && (decide (n2 = 0) && decide (n3 = 1))) = false) := by show _ = _; simp [h2]
      clear h1 h2
      go_enter Tryd.func112, Tryd.ntmps112
      go_wp2_with fail
      go_ret
      exact ⟨ret_bool HR.out.symm, below_alloc _ _⟩
  · have a1 := int_ne0 h1
    have HR : Hid ((decide (n1 = 0) && (decide (n2 = 0) && decide (n3 = 1))) = false) := by show _ = _; simp [h1]
    clear h1
    go_enter Tryd.func112, Tryd.ntmps112
    go_wp2_with fail
    go_ret
    exact ⟨ret_bool HR.out.symm, below_alloc _ _⟩

theorem flagSound_any (c0 : Value) (p1 p2 p3 : Option Addr) (n1 n2 n3 m1 m2 m3 : Nat) (w : World) :
    Calls Tryd.prog 100 #[.agg #[c0, .slice p1 n1 m1, .slice p2 n2 m2, .slice p3 n3 m3]] w fun e w' => e = .returned (.bool (decide (n1 = 0) && (decide (n2 = 0) && decide (n3 = 0)))) ∧ Below w.heap.size w w' := by
  have HB := Lib.hid (below_alloc w)
  go_enter Tryd.func100, Tryd.ntmps100
  go_wp2_with fail
  refine (isBare_any _ _ _ _ _ _ _ _ _ _ _).mono ?_
  rintro e w1 ⟨rfl, hb1⟩
  have HB1 := Lib.hid ((HB.out _).trans (hb1.mono (by simp)))
  clear hb1
  obtain ⟨b, hb⟩ : ∃ b, (decide (n1 = 0) && (decide (n2 = 0) && decide (n3 = 0))) = b := ⟨_, rfl⟩
  have HE := Lib.hid hb
  rw [hb]
  clear hb
  go_wp2_with fail
  go_ret
  exact ⟨ret_bool HE.out.symm, HB1.out⟩

theorem numSound_any (c0 : Value) (p1 p2 p3 : Option Addr) (n1 n2 n3 m1 m2 m3 : Nat) (w : World) :
    Calls Tryd.prog 102 #[.agg #[c0, .slice p1 n1 m1, .slice p2 n2 m2, .slice p3 n3 m3]] w fun e w' => e = .returned (.bool (decide (n1 = 0) && (decide (n2 = 0) && decide (n3 = 0)))) ∧ Below w.heap.size w w' := by
  have HB := Lib.hid (below_alloc w)
  go_enter Tryd.func102, Tryd.ntmps102
  go_wp2_with fail
  refine (isBare_any _ _ _ _ _ _ _ _ _ _ _).mono ?_
  rintro e w1 ⟨rfl, hb1⟩
  have HB1 := Lib.hid ((HB.out _).trans (hb1.mono (by simp)))
  clear hb1
  obtain ⟨b, hb⟩ : ∃ b, (decide (n1 = 0) && (decide (n2 = 0) && decide (n3 = 0))) = b := ⟨_, rfl⟩
  have HE := Lib.hid hb
  rw [hb]
  clear hb
  go_wp2_with fail
  go_ret
  exact ⟨ret_bool HE.out.symm, HB1.out⟩

theorem textSound_any (c0 : Value) (p1 p2 p3 : Option Addr) (n1 n2 n3 m1 m2 m3 : Nat) (w : World) :
    Calls Tryd.prog 104 #[.agg #[c0, .slice p1 n1 m1, .slice p2 n2 m2, .slice p3 n3 m3]] w fun e w' => e = .returned (.bool (decide (n1 = 0) && (decide (n2 = 0) && decide (n3 = 0)))) ∧ Below w.heap.size w w' := by
  have HB := Lib.hid (below_alloc w)
  go_enter Tryd.func104, Tryd.ntmps104
  go_wp2_with fail
  refine (isBare_any _ _ _ _ _ _ _ _ _ _ _).mono ?_
  rintro e w1 ⟨rfl, hb1⟩
  have HB1 := Lib.hid ((HB.out _).trans (hb1.mono (by simp)))
  clear hb1
  obtain ⟨b, hb⟩ : ∃ b, (decide (n1 = 0) && (decide (n2 = 0) && decide (n3 = 0))) = b := ⟨_, rfl⟩
  have HE := Lib.hid hb
  rw [hb]
  clear hb
  go_wp2_with fail
  go_ret
  exact ⟨ret_bool HE.out.symm, HB1.out⟩

theorem maybeSound_any (c0 : Value) (p1 p2 p3 : Option Addr) (n1 n2 n3 m1 m2 m3 : Nat) (w : World) :
    Calls Tryd.prog 111 #[.agg #[c0, .slice p1 n1 m1, .slice p2 n2 m2, .slice p3 n3 m3]] w fun e w' => e = .returned (.bool (decide (n1 = 0) && (decide (n2 = 0) && decide (n3 = 1)))) ∧ Below w.heap.size w w' := by
  have HB := Lib.hid (below_alloc w)
  go_enter Tryd.func111, Tryd.ntmps111
  go_wp2_with fail
  refine (isOne_any _ _ _ _ _ _ _ _ _ _ _).mono ?_
  rintro e w1 ⟨rfl, hb1⟩
  have HB1 := Lib.hid ((HB.out _).trans (hb1.mono (by simp)))
  clear hb1
  obtain ⟨b, hb⟩ : ∃ b, (decide (n1 = 0) && (decide (n2 = 0) && decide (n3 = 1))) = b := ⟨_, rfl⟩
  have HE := Lib.hid hb
  rw [hb]
  clear hb
  go_wp2_with fail
  go_ret
  exact ⟨ret_bool HE.out.symm, HB1.out⟩

theorem listSound_any (c0 : Value) (p1 p2 p3 : Option Addr) (n1 n2 n3 m1 m2 m3 : Nat) (w : World) :
    Calls Tryd.prog 114 #[.agg #[c0, .slice p1 n1 m1, .slice p2 n2 m2, .slice p3 n3 m3]] w fun e w' => e = .returned (.bool (decide (n1 = 0) && (decide (n2 = 0) && decide (n3 = 1)))) ∧ Below w.heap.size w w' := by
  have HB := Lib.hid (below_alloc w)
  go_enter Tryd.func114, Tryd.ntmps114
  go_wp2_with fail
  refine (isOne_any _ _ _ _ _ _ _ _ _ _ _).mono ?_
  rintro e w1 ⟨rfl, hb1⟩
  have HB1 := Lib.hid ((HB.out _).trans (hb1.mono (by simp)))
  clear hb1
  obtain ⟨b, hb⟩ : ∃ b, (decide (n1 = 0) && (decide (n2 = 0) && decide (n3 = 1))) = b := ⟨_, rfl⟩
  have HE := Lib.hid hb
  rw [hb]
  clear hb
  go_wp2_with fail
  go_ret
  exact ⟨ret_bool HE.out.symm, HB1.out⟩

theorem implWords_is (v : Value) (l : List ByteArray) (b : Bool) (hb : wordsOk l = b) (w : World) (h : IsStrs w v l) :
    Calls Tryd.prog 107 #[v] w fun e w' => e = .returned (.bool b) ∧ w = w' := by
  subst hb; exact implWords_any v l w h

theorem pickSound_any (c0 : Value) (p1 p2 p3 : Option Addr) (n2 n3 m1 m2 m3 : Nat) (sy : List ByteArray) (w : World) (hs : IsStrs w (.slice p1 sy.length m1) sy) :
    Calls Tryd.prog 106 #[.agg #[c0, .slice p1 sy.length m1, .slice p2 n2 m2, .slice p3 n3 m3]] w fun e w' => e = .returned (.bool (decide (0 < sy.length) && (wordsOk sy && (decide (n2 = 0) && decide (n3 = 0))))) ∧ Below w.heap.size w w' := by
  have HS := Lib.hid hs
  clear hs
  by_cases h1 : 0 < sy.length
  · have a1 : (0 : Int) < sy.length := by omega
    cases hw : wordsOk sy
    · have HW := Lib.hid hw
      have HR : Hid ((decide (0 < sy.length) && (false && (decide (n2 = 0) && decide (n3 = 0)))) = false) := by show _ = _; simp
      clear hw h1
      go_enter Tryd.func106, Tryd.ntmps106
      go_wp2_with fail
      refine (implWords_is _ _ _ HW.out _ (HS.out.keep (keeps_alloc _ _))).mono ?_
      rintro e w' ⟨rfl, rfl⟩
      go_wp2_with fail
      go_ret
      exact ⟨ret_bool HR.out.symm, below_alloc _ _⟩
    · have HW := Lib.hid hw
      by_cases h2 : n2 = 0
      · have a2 := int_eq0 h2
        by_cases h3 : n3 = 0
        · have a3 := int_eq0 h3
          have HR : Hid ((decide (0 < sy.length) && (true && (decide (n2 = 0) && decide (n3 = 0)))) = true) := by show _ = _; simp [h1, h2, h3]
          clear hw h1 h2 h3
          go_enter Tryd.func106, Tryd.ntmps106
          go_wp2_with fail
          refine (implWords_is _ _ _ HW.out _ (HS.out.keep (keeps_alloc _ _))).mono ?_
          rintro e w' ⟨rfl, rfl⟩
          go_wp2_with fail
          go_ret
          exact ⟨ret_bool HR.out.symm, below_alloc _ _⟩
        · have a3 := int_ne0 h3
          have HR : Hid ((decide (0 < sy.length) && (true && (decide (n2 = 0) && decide (n3 = 0)))) = false) := by show _ = _; simp [h3]
          clear hw h1 h2 h3
          go_enter Tryd.func106, Tryd.ntmps106
          go_wp2_with fail
          refine (implWords_is _ _ _ HW.out _ (HS.out.keep (keeps_alloc _ _))).mono ?_
          rintro e w' ⟨rfl, rfl⟩
          go_wp2_with fail
          go_ret
          exact ⟨ret_bool HR.out.symm, below_alloc _ _⟩
      · have a2 := int_ne0 h2
        have HR : Hid ((decide (0 < sy.length) && (true && (decide (n2 = 0) && decide (n3 = 0)))) = false) := by show _ = _; simp [h2]
        clear hw h1 h2
        go_enter Tryd.func106, Tryd.ntmps106
        go_wp2_with fail
        refine (implWords_is _ _ _ HW.out _ (HS.out.keep (keeps_alloc _ _))).mono ?_
        rintro e w' ⟨rfl, rfl⟩
        go_wp2_with fail
        go_ret
        exact ⟨ret_bool HR.out.symm, below_alloc _ _⟩
  · have a1 : sy.length = 0 := by omega
    have HR : Hid ((decide (0 < sy.length) && (wordsOk sy && (decide (n2 = 0) && decide (n3 = 0)))) = false) := by show _ = _; simp [h1]
    clear h1
    go_enter Tryd.func106, Tryd.ntmps106
    go_wp2_with fail
    go_ret
    exact ⟨ret_bool HR.out.symm, below_alloc _ _⟩

theorem recSound_any (c0 : Value) (p1 p2 p3 : Option Addr) (n1 n3 m1 m2 m3 : Nat) (na : List ByteArray) (w : World) (hs : IsStrs w (.slice p2 na.length m2) na) :
    Calls Tryd.prog 116 #[.agg #[c0, .slice p1 n1 m1, .slice p2 na.length m2, .slice p3 n3 m3]] w fun e w' => e = .returned (.bool (decide (n1 = 0) && (wordsOk na && decide (n3 = na.length)))) ∧ Below w.heap.size w w' := by
  have HS := Lib.hid hs
  clear hs
  by_cases h1 : n1 = 0
  · have a1 := int_eq0 h1
    cases hw : wordsOk na
    · have HW := Lib.hid hw
      have HR : Hid ((decide (n1 = 0) && (false && decide (n3 = na.length))) = false) := by show _ = _; simp
      clear hw h1
      go_enter Tryd.func116, Tryd.ntmps116
      go_wp2_with fail
      refine (implWords_is _ _ _ HW.out _ (HS.out.keep (keeps_alloc _ _))).mono ?_
      rintro e w' ⟨rfl, rfl⟩
      go_wp2_with fail
      go_ret
      exact ⟨ret_bool HR.out.symm, below_alloc _ _⟩
    · have HW := Lib.hid hw
      by_cases h3 : n3 = na.length
      · have HR : Hid ((decide (n1 = 0) && (true && decide (n3 = na.length))) = true) := by show _ = _; simp [h1, h3]
        subst h3
        clear hw h1
        go_enter Tryd.func116, Tryd.ntmps116
        go_wp2_with fail
        refine (implWords_is _ _ _ HW.out _ (HS.out.keep (keeps_alloc _ _))).mono ?_
        rintro e w' ⟨rfl, rfl⟩
        go_wp2_with fail
        go_ret
        exact ⟨ret_bool HR.out.symm, below_alloc _ _⟩
      · have a3 := int_ne h3
        have HR : Hid ((decide (n1 = 0) && (true && decide (n3 = na.length))) = false) := by show _ = _; simp [h3]
        clear hw h1 h3
        go_enter Tryd.func116, Tryd.ntmps116
        go_wp2_with fail
        refine (implWords_is _ _ _ HW.out _ (HS.out.keep (keeps_alloc _ _))).mono ?_
        rintro e w' ⟨rfl, rfl⟩
        go_wp2_with fail
        go_ret
        exact ⟨ret_bool HR.out.symm, below_alloc _ _⟩
  · have a1 := int_ne0 h1
    have HR : Hid ((decide (n1 = 0) && (wordsOk na && decide (n3 = na.length))) = false) := by show _ = _; simp [h1]
    clear h1
    go_enter Tryd.func116, Tryd.ntmps116
    go_wp2_with fail
    go_ret
    exact ⟨ret_bool HR.out.symm, below_alloc _ _⟩
end Go.Proofs.YtfdhmkmeffgkgaaDoor
namespace Go.Proofs.YtfdhmkmeffgkgaaDoor
open Go.RowKit

theorem kindOf_flag (p1 p2 p3 : Option Addr) (n1 n2 n3 m1 m2 m3 : Nat) (w : World) :
    Calls Tryd.prog 80 #[.agg #[.int .i64 1, .slice p1 n1 m1, .slice p2 n2 m2, .slice p3 n3 m3]] w fun e w' => e = .returned (.iface 92 (.agg #[.int .i64 1, .slice p1 n1 m1, .slice p2 n2 m2, .slice p3 n3 m3])) ∧ Below w.heap.size w w' := by
  go_enter Tryd.func80, Tryd.ntmps80
  go_wp2_with fail
  go_ret
  exact ⟨rfl, below_alloc _ _⟩

theorem kindOf_num (p1 p2 p3 : Option Addr) (n1 n2 n3 m1 m2 m3 : Nat) (w : World) :
    Calls Tryd.prog 80 #[.agg #[.int .i64 2, .slice p1 n1 m1, .slice p2 n2 m2, .slice p3 n3 m3]] w fun e w' => e = .returned (.iface 93 (.agg #[.int .i64 2, .slice p1 n1 m1, .slice p2 n2 m2, .slice p3 n3 m3])) ∧ Below w.heap.size w w' := by
  go_enter Tryd.func80, Tryd.ntmps80
  go_wp2_with fail
  go_ret
  exact ⟨rfl, below_alloc _ _⟩

theorem kindOf_text (p1 p2 p3 : Option Addr) (n1 n2 n3 m1 m2 m3 : Nat) (w : World) :
    Calls Tryd.prog 80 #[.agg #[.int .i64 3, .slice p1 n1 m1, .slice p2 n2 m2, .slice p3 n3 m3]] w fun e w' => e = .returned (.iface 94 (.agg #[.int .i64 3, .slice p1 n1 m1, .slice p2 n2 m2, .slice p3 n3 m3])) ∧ Below w.heap.size w w' := by
  go_enter Tryd.func80, Tryd.ntmps80
  go_wp2_with fail
  go_ret
  exact ⟨rfl, below_alloc _ _⟩

theorem kindOf_pick (p1 p2 p3 : Option Addr) (n1 n2 n3 m1 m2 m3 : Nat) (w : World) :
    Calls Tryd.prog 80 #[.agg #[.int .i64 4, .slice p1 n1 m1, .slice p2 n2 m2, .slice p3 n3 m3]] w fun e w' => e = .returned (.iface 95 (.agg #[.int .i64 4, .slice p1 n1 m1, .slice p2 n2 m2, .slice p3 n3 m3])) ∧ Below w.heap.size w w' := by
  go_enter Tryd.func80, Tryd.ntmps80
  go_wp2_with fail
  go_ret
  exact ⟨rfl, below_alloc _ _⟩

theorem kindOf_maybe (p1 p2 p3 : Option Addr) (n1 n2 n3 m1 m2 m3 : Nat) (w : World) :
    Calls Tryd.prog 80 #[.agg #[.int .i64 5, .slice p1 n1 m1, .slice p2 n2 m2, .slice p3 n3 m3]] w fun e w' => e = .returned (.iface 96 (.agg #[.int .i64 5, .slice p1 n1 m1, .slice p2 n2 m2, .slice p3 n3 m3])) ∧ Below w.heap.size w w' := by
  go_enter Tryd.func80, Tryd.ntmps80
  go_wp2_with fail
  go_ret
  exact ⟨rfl, below_alloc _ _⟩

theorem kindOf_list (p1 p2 p3 : Option Addr) (n1 n2 n3 m1 m2 m3 : Nat) (w : World) :
    Calls Tryd.prog 80 #[.agg #[.int .i64 6, .slice p1 n1 m1, .slice p2 n2 m2, .slice p3 n3 m3]] w fun e w' => e = .returned (.iface 97 (.agg #[.int .i64 6, .slice p1 n1 m1, .slice p2 n2 m2, .slice p3 n3 m3])) ∧ Below w.heap.size w w' := by
  go_enter Tryd.func80, Tryd.ntmps80
  go_wp2_with fail
  go_ret
  exact ⟨rfl, below_alloc _ _⟩

theorem kindOf_rec (p1 p2 p3 : Option Addr) (n1 n2 n3 m1 m2 m3 : Nat) (w : World) :
    Calls Tryd.prog 80 #[.agg #[.int .i64 7, .slice p1 n1 m1, .slice p2 n2 m2, .slice p3 n3 m3]] w fun e w' => e = .returned (.iface 98 (.agg #[.int .i64 7, .slice p1 n1 m1, .slice p2 n2 m2, .slice p3 n3 m3])) ∧ Below w.heap.size w w' := by
  go_enter Tryd.func80, Tryd.ntmps80
  go_wp2_with fail
  go_ret
  exact ⟨rfl, below_alloc _ _⟩

theorem kindOf_none (k : Int) (h1 : ¬ k = 1) (h2 : ¬ k = 2) (h3 : ¬ k = 3) (h4 : ¬ k = 4) (h5 : ¬ k = 5) (h6 : ¬ k = 6) (h7 : ¬ k = 7) (p1 p2 p3 : Option Addr) (n1 n2 n3 m1 m2 m3 : Nat) (w : World) :
    Calls Tryd.prog 80 #[.agg #[.int .i64 k, .slice p1 n1 m1, .slice p2 n2 m2, .slice p3 n3 m3]] w fun e w' => e = .returned .nilIface ∧ Below w.heap.size w w' := by
  have a1 : (k == 1) = false := by simpa using h1
  have a2 : (k == 2) = false := by simpa using h2
  have a3 : (k == 3) = false := by simpa using h3
  have a4 : (k == 4) = false := by simpa using h4
  have a5 : (k == 5) = false := by simpa using h5
  have a6 : (k == 6) = false := by simpa using h6
  have a7 : (k == 7) = false := by simpa using h7
  clear h1 h2 h3 h4 h5 h6 h7
  go_enter Tryd.func80, Tryd.ntmps80
  go_wp2_with fail
  go_ret
  exact ⟨rfl, below_alloc _ _⟩
end Go.Proofs.YtfdhmkmeffgkgaaDoor
