/- Plain: Edits that come to nothing. -/
import Derived.Test.YtfdhmkmeffgkgaaDoorGLosesW
import Derived.Test.YtfdhmkmeffgkgaaDoorGEdBkP
import Derived.Test.YtfdhmkmeffgkgaaDoorGMapA
import Derived.Test.YtfdhmkmeffgkgaaDoorGToE
namespace Go.Proofs.YtfdhmkmeffgkgaaDoor
open Go.RowKit

/-- All fields alike. -/
def edEq (a b : Ed) : Bool := decide (a.kd = b.kd) && decide (a.path = b.path) && decide (a.pl = b.pl) && decide (a.nm = b.nm) && decide (a.tn = b.tn) && shEq a.sh b.sh && shEq a.ws b.ws
/-- One, and right behind it the one that undoes it; nothing is lost. -/
def goesB (a b : Ed) : Bool := !losesB a && edEq (undoneR a) b
def pairAt (l : List Ed) (i : Nat) : Bool := match l[i]?, l[i + 1]? with | some a, some b => goesB a b | _, _ => false
def cut2 (l : List Ed) (i : Nat) : List Ed := l.take i ++ l.drop (i + 2)
/-- The first such two go, while there are any. -/
inductive Trims : List Ed → List Ed → Prop
  | done {l : List Ed} : (∀ i, pairAt l i = false) → Trims l l
  | cut {l r : List Ed} {i : Nat} : (∀ j, j < i → pairAt l j = false) → pairAt l i = true → Trims (cut2 l i) r → Trims l r
/-- What Trim answers. -/
def TrimOf (l r : List Ed) : Prop := if l.length ≤ 400 ∧ l.all edOk = true then Trims l r else r = []

theorem pair_lt {l : List Ed} {i : Nat} (h : pairAt l i = true) : i + 1 < l.length := by
  unfold pairAt at h
  split at h
  · rename_i a b h1 h2
    exact (List.getElem?_eq_some_iff.1 h2).1
  · cases h
theorem pair_at {l : List Ed} {i : Nat} (h : i + 1 < l.length) : pairAt l i = goesB (l[i]'(by omega)) l[i + 1] := by
  unfold pairAt
  rw [List.getElem?_eq_getElem (by omega), List.getElem?_eq_getElem h]
theorem pair_end {l : List Ed} {i : Nat} (hi : l.length ≤ i + 1) (h : ∀ j, j < i → pairAt l j = false) (j : Nat) : pairAt l j = false := by
  by_cases hj : j < i
  · exact h j hj
  · cases hp : pairAt l j with
    | false => rfl
    | true => have := pair_lt hp; omega
theorem pair_next {l : List Ed} {i : Nat} (h : ∀ j, j < i → pairAt l j = false) (hi : pairAt l i = false) : ∀ j, j < i + 1 → pairAt l j = false := fun j hj => by
  by_cases hji : j < i
  · exact h j hji
  · rw [show j = i by omega]; exact hi
theorem cut2_len {l : List Ed} {i : Nat} (h : i + 1 < l.length) : (cut2 l i).length = l.length - 2 := by
  simp only [cut2, List.length_append, List.length_take, List.length_drop]; omega
theorem cut2_get {l : List Ed} {i j : Nat} (h : i + 1 < l.length) (hj : j < i) : (cut2 l i)[j]? = l[j]? := by
  unfold cut2
  rw [List.getElem?_append_left (by rw [List.length_take]; omega), List.getElem?_take_of_lt hj]
theorem pair_cut {l : List Ed} {i : Nat} (hl : i + 1 < l.length) (h : ∀ j, j < i → pairAt l j = false) : ∀ j, j < i - 1 → pairAt (cut2 l i) j = false := fun j hj => by
  have := h j (by omega)
  unfold pairAt at this ⊢
  rw [cut2_get hl (by omega), cut2_get hl (by omega)]; exact this
theorem cut2_all {l : List Ed} {i : Nat} (h : l.all edOk = true) : (cut2 l i).all edOk = true := by
  rw [List.all_eq_true] at h ⊢
  intro x hx
  rcases List.mem_append.1 hx with hx | hx
  · exact h x (List.mem_of_mem_take hx)
  · exact h x (List.mem_of_mem_drop hx)
theorem Trims.last {l r : List Ed} (h : Trims l r) (hn : ∀ i, pairAt l i = false) : r = l := by
  cases h with
  | done _ => rfl
  | cut _ h2 _ => rw [hn] at h2; cases h2
theorem Trims.next {l r : List Ed} {i : Nat} (h : Trims l r) (hn : ∀ j, j < i → pairAt l j = false) (hi : pairAt l i = true) : Trims (cut2 l i) r := by
  cases h with
  | done h1 => rw [h1] at hi; cases hi
  | cut h1 h2 h3 =>
    rename_i k
    have e : k = i := by
      rcases Nat.lt_trichotomy k i with h | h | h
      · rw [hn k h] at h2; cases h2
      · exact h
      · rw [h1 i h] at hi; cases hi
    rw [← e]; exact h3
theorem trims_any : ∀ (n : Nat) (l : List Ed), l.length ≤ n → ∃ r, Trims l r
  | 0, l, h => ⟨l, .done fun i => by cases hp : pairAt l i with | false => rfl | true => have := pair_lt hp; omega⟩
  | n + 1, l, h => by
    by_cases he : ∃ i, pairAt l i = true
    · obtain ⟨i, hi, hm⟩ : ∃ i, pairAt l i = true ∧ ∀ j, j < i → pairAt l j = false := by
        obtain ⟨i, hi⟩ := he
        induction i using Nat.strongRecOn with
        | ind i ih =>
          by_cases hj : ∃ j, j < i ∧ pairAt l j = true
          · obtain ⟨j, h1, h2⟩ := hj
            exact ih j h1 h2
          · exact ⟨i, hi, fun j h1 => by cases hp : pairAt l j with | false => rfl | true => exact absurd ⟨j, h1, hp⟩ hj⟩
      have hl := pair_lt hi
      obtain ⟨r, hr⟩ := trims_any n (cut2 l i) (by rw [cut2_len hl]; omega)
      exact ⟨r, .cut hm hi hr⟩
    · exact ⟨l, .done fun i => by cases hp : pairAt l i with | false => rfl | true => exact absurd ⟨i, hp⟩ he⟩
theorem trimOf_any (l : List Ed) : ∃ r, TrimOf l r := by
  unfold TrimOf
  split
  · exact trims_any l.length l (Nat.le_refl _)
  · exact ⟨[], rfl⟩
theorem Trims.sub {l r : List Ed} (h : Trims l r) : r.Sublist l := by
  induction h with
  | done _ => exact List.Sublist.refl _
  | @cut l r i _ _ _ ih =>
    refine ih.trans ?_
    have h2 : l.take i ++ l.drop i = l := List.take_append_drop i l
    have h3 : (cut2 l i).Sublist (l.take i ++ l.drop i) := List.Sublist.append (List.Sublist.refl _) (by rw [show l.drop (i + 2) = (l.drop i).drop 2 by rw [List.drop_drop]]; exact List.drop_sublist 2 _)
    rwa [h2] at h3
theorem TrimOf.sub {l r : List Ed} (h : TrimOf l r) : r.Sublist l := by
  unfold TrimOf at h
  split at h
  · exact h.sub
  · rw [h]; exact List.nil_sublist _
theorem trim_no {l r : List Ed} (h : TrimOf l r) {j : Nat} (hj : j < l.length) (hn : edOk l[j] = false) : r = [] := by
  unfold TrimOf at h
  rw [if_neg] at h
  · exact h
  · rintro ⟨_, ha⟩
    rw [List.all_eq_true] at ha
    rw [ha l[j] (List.getElem_mem hj)] at hn; cases hn
theorem trim_big {l r : List Ed} (h : TrimOf l r) (hl : 400 < l.length) : r = [] := by
  unfold TrimOf at h
  rw [if_neg] at h
  · exact h
  · rintro ⟨h1, _⟩; omega
theorem trim_yes {l r : List Ed} (h : TrimOf l r) (hl : l.length ≤ 400) (ha : l.all edOk = true) : Trims l r := by
  unfold TrimOf at h
  rwa [if_pos ⟨hl, ha⟩] at h
end Go.Proofs.YtfdhmkmeffgkgaaDoor
