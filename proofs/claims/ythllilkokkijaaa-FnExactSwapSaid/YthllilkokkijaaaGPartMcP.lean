/- A part is no bigger than its shape. -/
import Derived.Test.YthllilkokkijaaaGPartP
import Derived.Test.YthllilkokkijaaaGSoP
namespace Go.Proofs.Ythllilkokkijaaa
open Go.RowKit

theorem szs_of : ∀ (l : List Sh) (x : Sh), x ∈ l → x.sz ≤ Sh.szs l
  | [], _, h => by cases h
  | y :: l, x, h => by
    simp only [Sh.szs]
    rcases List.mem_cons.1 h with rfl | h
    · omega
    · have := szs_of l x h; omega
theorem child_sz {t u : Sh} {s : ByteArray} (h : childR t s = some u) : u.sz ≤ t.sz := by
  unfold childR at h
  split at h
  · have hm := List.mem_of_getElem? h
    cases t with | mk k sy na su =>
    simp only [Sh.su] at hm
    have := szs_of _ _ hm
    simp only [Sh.sz]; omega
  · cases h
theorem part_sz : ∀ (p : List ByteArray) (t u : Sh), partP p t = some u → u.sz ≤ t.sz
  | [], t, u, h => by cases h; exact Nat.le_refl _
  | s :: p, t, u, h => by
    simp only [partP] at h
    cases hc : childR t s with
    | none => rw [hc] at h; cases h
    | some x =>
      rw [hc] at h
      exact Nat.le_trans (part_sz p x u h) (child_sz hc)
theorem zsh_mc : 1 + Sh.mcw zsh ≤ 1099511627776 := by decide
theorem partR_mc (t : Sh) (p : List ByteArray) (h : t.sz ≤ 1048576) : 1 + Sh.mcw (partR t p).1 ≤ 1099511627776 := by
  unfold partR
  split
  · exact zsh_mc
  · split
    · exact zsh_mc
    · cases hp : partP p t with
      | none => exact zsh_mc
      | some u =>
        have h1 := part_sz p t u hp
        have h2 := smcw_le u
        show 1 + Sh.mcw u ≤ _
        omega
end Go.Proofs.Ythllilkokkijaaa
