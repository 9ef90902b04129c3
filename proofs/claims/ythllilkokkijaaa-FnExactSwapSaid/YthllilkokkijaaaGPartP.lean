/- Plain: what a path leads to. -/
import Derived.Test.YthllilkokkijaaaGPathW
import Derived.Test.YthllilkokkijaaaGPartA
import Derived.Test.YthllilkokkijaaaGTxtP
namespace Go.Proofs.Ythllilkokkijaaa
open Go.RowKit

/-- Which part a step leads to; -1: none. -/
def stepR (t : Sh) (s : ByteArray) : Int := if s = starS then (if t.kd = 5 ∨ t.kd = 6 then 0 else -1) else posOf t.na s
/-- What a step leads to. -/
def childR (t : Sh) (s : ByteArray) : Option Sh := if 0 ≤ stepR t s then t.su[(stepR t s).toNat]? else none
/-- What a path leads to. -/
def partP : List ByteArray → Sh → Option Sh
  | [], t => some t
  | s :: p, t => match childR t s with | none => none | some u => partP p u
theorem partP_append : ∀ (p q : List ByteArray) (t : Sh), partP (p ++ q) t = (partP p t).bind (partP q)
  | [], q, t => rfl
  | s :: p, q, t => by
    simp only [List.cons_append, partP]
    cases childR t s with
    | none => rfl
    | some u => exact partP_append p q u
theorem partP_snoc (p : List ByteArray) (s : ByteArray) (t : Sh) : partP (p ++ [s]) t = (partP p t).bind fun u => childR u s := by
  rw [partP_append]
  cases partP p t with
  | none => rfl
  | some u =>
    simp only [Option.bind_some, partP]
    cases childR u s <;> rfl
theorem partP_none {p : List ByteArray} {k : Nat} {t : Sh} (h : partP (p.take k) t = none) : partP p t = none := by
  have := partP_append (p.take k) (p.drop k) t
  rw [List.take_append_drop, h] at this
  exact this
theorem posOf_lt : ∀ (l : List ByteArray) (t : ByteArray), posOf l t < l.length
  | [], _ => by simp [posOf]
  | s :: l, t => by
    have := posOf_lt l t
    unfold posOf; split
    · simp only [List.length_cons]; omega
    · split <;> simp only [List.length_cons] <;> omega
/-- A step that leads somewhere leads to a part. -/
theorem child_at {d : Nat} {t : Sh} {s : ByteArray} (hp : partOk d t = true) (h0 : 0 ≤ stepR t s) : ∃ h : (stepR t s).toNat < t.su.length, childR t s = some t.su[(stepR t s).toNat] ∧ ∃ d', d' < d ∧ partOk d' t.su[(stepR t s).toNat] = true := by
  cases d with
  | zero => cases t; simp [partOk] at hp
  | succ d =>
    have key : (stepR t s).toNat < t.su.length := by
      cases t with | mk k sy na su =>
      simp only [partOk, Bool.and_eq_true] at hp
      simp only [Sh.su]
      have e : stepR (.mk k sy na su) s = (if s = starS then (if k = 5 ∨ k = 6 then 0 else -1) else posOf na s) := rfl
      rw [e] at h0 ⊢
      by_cases hs : s = starS
      · rw [if_pos hs] at h0 ⊢
        by_cases hk : k = 5 ∨ k = 6
        · rw [if_pos hk]
          rcases sound_cases hp.1 with ⟨hk', _⟩ | ⟨hk', _⟩ | ⟨_, _, _, hn⟩ | ⟨hk', _⟩
          · omega
          · omega
          · rw [hn]; decide
          · omega
        · rw [if_neg hk] at h0; omega
      · rw [if_neg hs] at h0 ⊢
        have hlt := posOf_lt na s
        rcases sound_cases hp.1 with ⟨_, _, rfl, _⟩ | ⟨_, _, _, _, rfl, _⟩ | ⟨_, _, rfl, _⟩ | ⟨_, _, _, _, hn⟩
        · simp at hlt; omega
        · simp at hlt; omega
        · simp at hlt; omega
        · omega
    refine ⟨key, ?_, d, Nat.lt_succ_self _, ?_⟩
    · unfold childR; rw [if_pos h0, List.getElem?_eq_getElem key]
    · cases t with | mk k sy na su =>
      simp only [partOk, Bool.and_eq_true] at hp
      exact List.all_eq_true.1 hp.2 _ (List.getElem_mem _)
theorem child_no {t : Sh} {s : ByteArray} (h0 : stepR t s < 0) : childR t s = none := by unfold childR; rw [if_neg (by omega)]
/-- What a path leads to is right. -/
theorem part_ok : ∀ (p : List ByteArray) (d : Nat) (t u : Sh), partOk d t = true → partP p t = some u → ∃ d', d' ≤ d ∧ partOk d' u = true
  | [], d, t, u, hp, h => by cases h; exact ⟨d, Nat.le_refl _, hp⟩
  | s :: p, d, t, u, hp, h => by
    simp only [partP] at h
    by_cases h0 : 0 ≤ stepR t s
    · obtain ⟨_, hc, d1, hd, hd1⟩ := child_at hp h0
      rw [hc] at h
      obtain ⟨d2, h2, h3⟩ := part_ok p d1 _ u hd1 h
      exact ⟨d2, by omega, h3⟩
    · rw [child_no (by omega)] at h; cases h
theorem part_mono : ∀ (d d' : Nat) (t : Sh), d ≤ d' → partOk d t = true → partOk d' t = true
  | 0, _, t, _, h => by cases t; simp [partOk] at h
  | d + 1, 0, _, h, _ => by omega
  | d + 1, d' + 1, .mk k sy na su, hd, h => by
    simp only [partOk, Bool.and_eq_true] at h ⊢
    exact ⟨h.1, List.all_eq_true.2 fun x hx => part_mono d d' x (by omega) (List.all_eq_true.1 h.2 x hx)⟩
/-- What PartAt tells. -/
def zsh : Sh := .mk 0 [] [] []
def partR (t : Sh) (p : List ByteArray) : Sh × Int :=
  if 400 < p.length then (zsh, 2) else if (rightB t && pathOk p) = false then (zsh, 1) else match partP p t with | none => (zsh, 6) | some u => (u, 0)
end Go.Proofs.Ythllilkokkijaaa
