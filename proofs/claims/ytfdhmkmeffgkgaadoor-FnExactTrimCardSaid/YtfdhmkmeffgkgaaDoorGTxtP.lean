/- Plain: the text of a shape, and its length. -/
import Derived.Test.YtfdhmkmeffgkgaaDoorGKindA
import Derived.Test.YtfdhmkmeffgkgaaDoorGRightW
namespace Go.Proofs.YtfdhmkmeffgkgaaDoor
open Go.RowKit

/-- Texts with a comma between. -/
def joinC : List (List UInt8) → List UInt8
  | [] => []
  | [a] => a
  | a :: b :: l => a ++ 44 :: joinC (b :: l)
/-- The word of a kind. -/
def kwB (k : Int) : List UInt8 :=
  if k = 1 then [102, 108, 97, 103] else if k = 2 then [110, 117, 109] else if k = 3 then [116, 101, 120, 116] else if k = 4 then [112, 105, 99, 107]
  else if k = 5 then [109, 97, 121, 98, 101] else if k = 6 then [108, 105, 115, 116] else if k = 7 then [114, 101, 99] else []
mutual
/-- The text of a shape. -/
def Sh.txt : Sh → List UInt8
  | .mk k sy na su => kwB k ++ if k < 4 then [] else 40 :: (joinC (sy.map (·.data.toList) ++ Sh.items k na su) ++ [41])
/-- The texts of what stands in one, with the names of fields. -/
def Sh.items (k : Int) (na : List ByteArray) : List Sh → List (List UInt8)
  | [] => []
  | x :: l => (if k = 7 then (na.headD ⟨#[]⟩).data.toList ++ 58 :: Sh.txt x else Sh.txt x) :: Sh.items k na.tail l
end

theorem joinC_snoc : ∀ (l : List (List UInt8)) (a : List UInt8), joinC (l ++ [a]) = joinC l ++ (if l = [] then a else 44 :: a)
  | [], a => by simp [joinC]
  | [b], a => by simp [joinC]
  | b :: c :: l, a => by
    have := joinC_snoc (c :: l) a
    simp only [List.cons_append, joinC] at this ⊢
    rw [this]; simp
theorem items_len (k : Int) : ∀ (su : List Sh) (na : List ByteArray), (Sh.items k na su).length = su.length
  | [], _ => by simp [Sh.items]
  | x :: l, na => by simp [Sh.items, items_len k l]
theorem items_take_succ (k : Int) : ∀ (su : List Sh) (na : List ByteArray) (i : Nat) (h : i < su.length), (Sh.items k na su).take (i + 1) = (Sh.items k na su).take i ++ [if k = 7 then (na.getD i ⟨#[]⟩).data.toList ++ 58 :: su[i].txt else su[i].txt]
  | [], _, _, h => by cases h
  | x :: l, na, 0, _ => by
    simp only [Sh.items, List.take_succ_cons, List.take_zero, List.nil_append, List.getElem_cons_zero]
    cases na <;> simp
  | x :: l, na, i + 1, h => by
    have ih := items_take_succ k l na.tail i (by simpa using h)
    simp only [Sh.items, List.take_succ_cons, List.getElem_cons_succ, List.cons_append]
    rw [ih]
    cases na <;> simp [List.getD]

/-- How long the text of a right shape may be. -/
def capT : Nat → Nat
  | 0 => 0
  | d + 1 => 100 + 6 * capT d
theorem joinC_len (b : Nat) : ∀ (l : List (List UInt8)), (∀ a ∈ l, a.length ≤ b) → (joinC l).length ≤ l.length * (b + 1)
  | [], _ => by simp [joinC]
  | [a], h => by have := h a (by simp); simp [joinC]; omega
  | a :: c :: l, h => by
    have h1 := h a (by simp)
    have h2 := joinC_len b (c :: l) fun x hx => h x (by simp [hx])
    simp only [joinC, List.length_append, List.length_cons] at h2 ⊢
    have e : (l.length + 1 + 1) * (b + 1) = (l.length + 1) * (b + 1) + (b + 1) := by rw [Nat.add_mul (l.length + 1) 1, Nat.one_mul]
    omega
theorem kwB_len (k : Int) : (kwB k).length ≤ 5 := by
  unfold kwB
  repeat' split
  all_goals simp

theorem words_size {l : List ByteArray} (h : wordsAll l = true) : ∀ s ∈ l, s.size ≤ 8 := by
  intro s hs
  obtain ⟨k, hk, rfl⟩ := List.mem_iff_getElem.1 hs
  have := (List.all_eq_true.1 h) k (List.mem_range.2 hk)
  unfold okAt wordOk at this
  rw [getD_at hk] at this
  simp only [Bool.and_eq_true, decide_eq_true_iff] at this
  have := this.1.1.2
  rw [len_list] at this
  exact this
theorem items_le (k : Int) (b : Nat) : ∀ (su : List Sh) (na : List ByteArray), (∀ x ∈ su, x.txt.length ≤ b) → (∀ s ∈ na, s.size ≤ 8) → ∀ a ∈ Sh.items k na su, a.length ≤ b + 9
  | [], _, _, _ => by intro a ha; simp [Sh.items] at ha
  | x :: l, na, h1, h2 => by
    intro a ha
    simp only [Sh.items, List.mem_cons] at ha
    rcases ha with rfl | ha
    · have hx := h1 x (by simp)
      have hn : (na.headD ⟨#[]⟩).data.toList.length ≤ 8 := by
        cases na with
        | nil => simp
        | cons s na => have := h2 s (by simp); simpa using this
      split
      · simp only [List.length_append, List.length_cons]; omega
      · omega
    · exact items_le k b l na.tail (fun y hy => h1 y (by simp [hy])) (fun s hs => h2 s (List.mem_of_mem_tail hs)) a ha
/-- What a right shape's kind asks. -/
theorem sound_cases {k : Int} {sy na : List ByteArray} {n : Nat} (h : soundOf k sy na n = true) :
    (k = 1 ∨ k = 2 ∨ k = 3) ∧ sy = [] ∧ na = [] ∧ n = 0 ∨ k = 4 ∧ 0 < sy.length ∧ sy.length ≤ 6 ∧ wordsAll sy = true ∧ na = [] ∧ n = 0 ∨ (k = 5 ∨ k = 6) ∧ sy = [] ∧ na = [] ∧ n = 1 ∨ k = 7 ∧ sy = [] ∧ na.length ≤ 6 ∧ wordsAll na = true ∧ n = na.length := by
  unfold soundOf wordsOk at h
  by_cases h1 : k = 1 ∨ k = 2 ∨ k = 3
  · rw [if_pos h1] at h; simp at h; exact .inl ⟨h1, h⟩
  · rw [if_neg h1] at h
    by_cases h4 : k = 4
    · rw [if_pos h4] at h; simp only [Bool.and_eq_true, decide_eq_true_iff] at h
      exact .inr (.inl ⟨h4, h.1, h.2.1.1, h.2.1.2, List.eq_nil_of_length_eq_zero h.2.2.1, h.2.2.2⟩)
    · rw [if_neg h4] at h
      by_cases h5 : k = 5 ∨ k = 6
      · rw [if_pos h5] at h; simp at h; exact .inr (.inr (.inl ⟨h5, h⟩))
      · rw [if_neg h5] at h
        by_cases h7 : k = 7
        · rw [if_pos h7] at h; simp only [Bool.and_eq_true, decide_eq_true_iff] at h
          exact .inr (.inr (.inr ⟨h7, List.eq_nil_of_length_eq_zero h.1, h.2.1.1, h.2.1.2, h.2.2⟩))
        · rw [if_neg h7] at h; cases h
theorem txt_len (d : Nat) : ∀ t : Sh, partOk d t = true → t.txt.length ≤ capT d := by
  induction d with
  | zero => intro t h; simp [partOk] at h
  | succ d ih =>
    intro t h
    cases t with | mk k sy na su =>
    simp only [partOk, Bool.and_eq_true] at h
    have hs := h.2
    have hk := kwB_len k
    have hsu : ∀ x ∈ su, x.txt.length ≤ capT d := fun x hx => ih x (List.all_eq_true.1 hs x hx)
    simp only [Sh.txt, List.length_append]
    have key : ∀ L : List (List UInt8), L.length ≤ 6 → (∀ a ∈ L, a.length ≤ capT d + 9) → (joinC L).length ≤ 6 * (capT d + 10) := fun L h1 h2 => by
      have := joinC_len (capT d + 9) L h2
      exact Nat.le_trans this (Nat.mul_le_mul_right _ h1)
    have fin : (if k < 4 then ([] : List UInt8) else 40 :: (joinC (sy.map (·.data.toList) ++ Sh.items k na su) ++ [41])).length ≤ 2 + 6 * (capT d + 10) := by
      split
      · simp
      · have : (joinC (sy.map (·.data.toList) ++ Sh.items k na su)).length ≤ 6 * (capT d + 10) := by
          rcases sound_cases h.1 with ⟨_, rfl, rfl, hn⟩ | ⟨_, _, h6, hw, rfl, hn⟩ | ⟨_, rfl, rfl, hn⟩ | ⟨_, rfl, h6, hw, hn⟩
          · exact key _ (by simp [items_len, hn]) (fun a ha => items_le k (capT d) su [] hsu (by simp) a (by simpa using ha))
          · have := List.eq_nil_of_length_eq_zero hn
            subst this
            refine key _ (by simp [Sh.items]; omega) (fun a ha => ?_)
            simp only [Sh.items, List.append_nil, List.mem_map] at ha
            obtain ⟨s, hs, rfl⟩ := ha
            have := words_size hw s hs
            simp only [Array.length_toList]
            show s.size ≤ _
            omega
          · exact key _ (by simp [items_len, hn]) (fun a ha => items_le k (capT d) su [] hsu (by simp) a (by simpa using ha))
          · exact key _ (by simp [items_len, hn]; omega) (fun a ha => items_le k (capT d) su na hsu (words_size hw) a (by simpa using ha))
        simp only [List.length_cons, List.length_append, List.length_nil]
        omega
    simp only [capT]
    omega
end Go.Proofs.YtfdhmkmeffgkgaaDoor
