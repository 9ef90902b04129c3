/- Plain: how a text is read from its bytes. -/
import Derived.Test.YtejkeoahdienmaaDoorGetP
namespace Go.Proofs.YtejkeoahdienmaaDoor
open Go.RowKit

theorem getF_at {s : ByteArray} : ∀ (f q u : Nat), (getF s f q u).2.2 = 0 → 0 ≤ (getF s f q u).2.1 ∧ (getF s f q u).2.1 ≤ s.size := by
  intro f
  induction f with
  | zero => intro q u h; exact absurd h (show ¬ ((0 : Int), (0 : Int), (3 : Int)).2.2 = 0 by decide)
  | succ f ih =>
    intro q u h
    by_cases hq : q < s.size
    · by_cases h9 : f = 0 ∧ 1 < s[q].toNat
      · have e : getF s (f + 1) q u = (0, 0, 3) := by rw [getF, dif_pos hq, if_pos h9]
        rw [e] at h; exact absurd h (by decide)
      · by_cases hb : s[q].toNat < 128
        · rw [getF_last hq h9 hb] at h ⊢
          by_cases hz : s[q].toNat = 0 ∧ f ≠ 9
          · rw [if_pos hz] at h; exact absurd h (by decide)
          · rw [if_neg hz]; show 0 ≤ ((q + 1 : Nat) : Int) ∧ ((q + 1 : Nat) : Int) ≤ s.size; omega
        · rw [getF_more hq h9 hb] at h ⊢
          exact ih _ _ h
    · rw [getF_far (by omega)] at h; exact absurd h (by decide)
theorem res_place {s : ByteArray} {p : Int} (h : (getRes s p).2.2 = 0) : 0 ≤ (getRes s p).2.1 ∧ (getRes s p).2.1 ≤ s.size := by
  unfold getRes at h ⊢
  by_cases hp : p < 0
  · rw [if_pos hp] at h; exact absurd h (by decide)
  · rw [if_neg hp] at h ⊢; exact getF_at _ _ _ h

/-- The text, the place behind it, and the code. -/
def textRes (s : ByteArray) (p : Int) : ByteArray × Int × Int :=
  if (getRes s p).2.2 ≠ 0 then (⟨#[]⟩, 0, (getRes s p).2.2)
  else if (getRes s p).1 < 0 ∨ 8000 < (getRes s p).1 then (⟨#[]⟩, 0, 3)
  else if (s.size : Int) < (getRes s p).2.1 + (getRes s p).1 then (⟨#[]⟩, 0, 4)
  else (s.extract (getRes s p).2.1.toNat ((getRes s p).2.1 + (getRes s p).1).toNat, (getRes s p).2.1 + (getRes s p).1, 0)
theorem text_num {s : ByteArray} {p c : Int} (h : (getRes s p).2.2 = c) (hc : c ≠ 0) : textRes s p = (⟨#[]⟩, 0, c) := by
  unfold textRes; rw [h, if_pos hc]
theorem text_size {s : ByteArray} {p n : Int} (h : (getRes s p).2.2 = 0) (hn : (getRes s p).1 = n) (h1 : n < 0 ∨ 8000 < n) : textRes s p = (⟨#[]⟩, 0, 3) := by
  unfold textRes; rw [h, hn, if_neg (by decide), if_pos h1]
theorem text_short {s : ByteArray} {p n q : Int} (h : (getRes s p).2.2 = 0) (hn : (getRes s p).1 = n) (hq : (getRes s p).2.1 = q) (h1 : ¬ (n < 0 ∨ 8000 < n)) (h2 : (s.size : Int) < q + n) : textRes s p = (⟨#[]⟩, 0, 4) := by
  unfold textRes; rw [h, hn, hq, if_neg (by decide), if_neg h1, if_pos h2]
theorem text_ok {s : ByteArray} {p n q : Int} (h : (getRes s p).2.2 = 0) (hn : (getRes s p).1 = n) (hq : (getRes s p).2.1 = q) (h1 : ¬ (n < 0 ∨ 8000 < n)) (h2 : ¬ (s.size : Int) < q + n) : textRes s p = (s.extract q.toNat (q + n).toNat, q + n, 0) := by
  unfold textRes; rw [h, hn, hq, if_neg (by decide), if_neg h1, if_neg h2]
theorem text_bad {s : ByteArray} {p : Int} (h : (textRes s p).2.2 ≠ 0) : textRes s p = (⟨#[]⟩, 0, (textRes s p).2.2) := by
  unfold textRes at h ⊢
  by_cases h1 : (getRes s p).2.2 ≠ 0
  · rw [if_pos h1]
  · rw [if_neg h1] at h ⊢
    by_cases h2 : (getRes s p).1 < 0 ∨ 8000 < (getRes s p).1
    · rw [if_pos h2]
    · rw [if_neg h2] at h ⊢
      by_cases h3 : (s.size : Int) < (getRes s p).2.1 + (getRes s p).1
      · rw [if_pos h3]
      · rw [if_neg h3] at h; exact absurd rfl h
end Go.Proofs.YtejkeoahdienmaaDoor
