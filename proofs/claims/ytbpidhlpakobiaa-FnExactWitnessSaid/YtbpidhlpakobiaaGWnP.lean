/- Plain: how great it is what can not be read. -/
import Derived.Test.YtbpidhlpakobiaaGRi1W
import Derived.Test.YtbpidhlpakobiaaGMkA
namespace Go.Proofs.Ytbpidhlpakobiaa
open Go.RowKit

theorem blank_mc' : ∀ t : Sh, (blankB t).mc ≤ 3 + 3 * t.sz := by
  refine Sh.ind fun k sy na su ih => ?_
  have key : ∀ l : List Sh, (∀ x ∈ l, (blankB x).mc ≤ 3 + 3 * x.sz) → Va.mcs (blanks l) ≤ 3 * (l.length + Sh.szs l) := by
    intro l
    induction l with
    | nil => intro _; simp [blanks, Va.mcs]
    | cons x l ihl =>
      intro h
      have h1 := h x (by simp)
      have h2 := ihl fun y hy => h y (by simp [hy])
      simp only [blanks, Va.mcs, Sh.szs, List.length_cons]
      omega
  have := key su ih
  simp only [blankB, Va.mc, Sh.sz, strsSz]
  split
  · omega
  · simp only [Va.mcs]; omega
theorem blanks_mc : ∀ l : List Sh, Va.mcs (blanks l) ≤ 3 * (l.length + Sh.szs l)
  | [] => by simp [blanks, Va.mcs]
  | x :: l => by
    have h1 := blank_mc' x
    have h2 := blanks_mc l
    simp only [blanks, Va.mcs, Sh.szs, List.length_cons]
    omega
theorem mcs_set (x : Va) : ∀ (l : List Va) (j : Nat), Va.mcs (l.set j x) ≤ Va.mcs l + x.mc
  | [], j => by simp [Va.mcs]
  | y :: l, 0 => by simp only [List.set_cons_zero, Va.mcs]; omega
  | y :: l, j + 1 => by
    have := mcs_set x l j
    simp only [List.set_cons_succ, Va.mcs]; omega
theorem szs_getD : ∀ (l : List Sh) (j : Nat), (l.getD j zsh).sz ≤ Sh.szs l
  | [], j => by simp [zsh, Sh.sz, Sh.szs, strsSz]
  | y :: l, 0 => by simp [Sh.szs]
  | y :: l, j + 1 => by
    have := szs_getD l j
    simp only [List.getD_cons_succ, Sh.szs]; omega
theorem sz_oneOf (s : Sh) : (oneOf s).sz ≤ s.sz := by
  cases s with | mk k sy na su =>
  cases su with
  | nil => simp [oneOf, Sh.su, zsh, Sh.sz, Sh.szs, strsSz]
  | cons x l => simp only [oneOf, Sh.su, List.headD_cons, Sh.sz, Sh.szs]; omega
theorem first_mem : ∀ {l : List (Option Va)} {x : Va}, firstW l = some x → some x ∈ l
  | [], x, h => by simp [firstW] at h
  | none :: l, x, h => by
    have := first_mem (l := l) (by simpa [firstW] using h)
    simp [this]
  | some y :: l, x, h => by
    have : y = x := by simpa [firstW] using h
    simp [this]
theorem wn_mc : ∀ (n : Nat) (w r : Sh) (x : Va), wnB n w r = some x → x.mc ≤ (3 + 3 * w.sz) * (n + 1)
  | 0, w, r, x, h => by simp [wnB] at h
  | n + 1, w, r, x, h => by
    have base : ∀ y : Va, y.mc ≤ 3 + 3 * w.sz → y.mc ≤ (3 + 3 * w.sz) * (n + 1 + 1) := fun y hy => by
      rw [Nat.mul_succ]; omega
    unfold wnB at h
    split at h
    · have := wn_mc n w (oneOf r) x h
      rw [Nat.mul_succ]; omega
    · split at h
      · have : x = .mk 5 0 ⟨#[]⟩ [] := by simpa using h.symm
        subst this
        exact base _ (by simp only [Va.mc, Va.mcs]; omega)
      · split at h
        · have : x = blankB w := by simpa using h.symm
          subst this
          exact base _ (blank_mc' w)
        · split at h
          · unfold pickW at h
            obtain ⟨s, _, rfl⟩ := Option.map_eq_some_iff.1 h
            exact base _ (by simp only [Va.mc, Va.mcs]; omega)
          · split at h
            · obtain ⟨y, hy, rfl⟩ := Option.map_eq_some_iff.1 h
              have h1 := wn_mc n (oneOf w) (oneOf r) y hy
              have h2 := Nat.mul_le_mul_right (n + 1) (show 3 + 3 * (oneOf w).sz ≤ 3 + 3 * w.sz by have := sz_oneOf w; omega)
              rw [Nat.mul_succ]
              simp only [Va.mc, Va.mcs]; omega
            · split at h
              · obtain ⟨p, _, hp⟩ := List.mem_map.1 (first_mem h)
                unfold fieldW at hp
                split at hp
                · obtain ⟨y, hy, rfl⟩ := Option.map_eq_some_iff.1 hp
                  have h1 := wn_mc n _ _ y hy
                  cases w with | mk k sy na su =>
                  simp only [Sh.na, Sh.su] at h1 ⊢
                  have h2 := szs_getD su (posOf na p.1).toNat
                  have h3 := Nat.mul_le_mul_right (n + 1) (show 3 + 3 * (su.getD (posOf na p.1).toNat zsh).sz ≤ 3 + 3 * (Sh.mk k sy na su).sz by simp only [Sh.sz]; omega)
                  have h4 := mcs_set y (blanks su) (posOf na p.1).toNat
                  have h5 := blanks_mc su
                  rw [Nat.mul_succ]
                  simp only [Va.mc, Sh.sz] at h3 ⊢
                  omega
                · cases hp
              · cases h
theorem witR_mc (t u : Sh) (h : t.sz ≤ 1048576) : 1 + Va.mcs (witR t u).it ≤ 1099511627776 := by
  unfold witR
  split
  · cases hx : wnB 10 t u with
    | none => simp [zva, Va.it, Va.mcs]
    | some x =>
      have h1 := wn_mc 10 t u x hx
      have h2 := Nat.mul_le_mul_right (10 + 1) (show 3 + 3 * t.sz ≤ 3145731 by omega)
      revert h1
      cases x with | mk k n tx it =>
      simp only [Va.mc, Va.it, Option.getD_some]; omega
  · simp [zva, Va.it, Va.mcs]
end Go.Proofs.Ytbpidhlpakobiaa
