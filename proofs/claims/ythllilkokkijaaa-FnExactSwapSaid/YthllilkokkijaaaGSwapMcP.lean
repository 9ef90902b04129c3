/- A shape with another part is no bigger than both. -/
import Derived.Test.YthllilkokkijaaaGSwapP
import Derived.Test.YthllilkokkijaaaGPartMcP
namespace Go.Proofs.Ythllilkokkijaaa
open Go.RowKit

theorem szs_set : ∀ (l : List Sh) (n : Nat) (y : Sh) (h : n < l.length), Sh.szs (l.set n y) + l[n].sz = Sh.szs l + y.sz
  | [], _, _, h => by cases h
  | x :: l, 0, y, _ => by simp only [List.set_cons_zero, Sh.szs, List.getElem_cons_zero]; omega
  | x :: l, n + 1, y, h => by
    have := szs_set l n y (by simpa using h)
    simp only [List.set_cons_succ, Sh.szs, List.getElem_cons_succ]; omega
theorem swapR_sz : ∀ (p : List ByteArray) (t x : Sh), (swapR p t x).sz ≤ t.sz + x.sz
  | [], t, x => by simp only [swapR]; omega
  | s :: p, .mk k sy na su, x => by
    simp only [swapR]
    obtain ⟨n, hn⟩ : ∃ n, (stepR (.mk k sy na su) s).toNat = n := ⟨_, rfl⟩
    rw [hn]
    simp only [Sh.sz, List.length_set]
    by_cases h : n < su.length
    · have h1 := szs_set su n (swapR p (su[n]?.getD zsh) x) h
      have h2 := swapR_sz p (su[n]?.getD zsh) x
      rw [List.getElem?_eq_getElem h, Option.getD_some] at h1 h2 ⊢
      omega
    · rw [List.set_eq_of_length_le (by omega)]; omega
theorem swapA_mc (t x : Sh) (p : List ByteArray) (h : t.sz ≤ 1048576) (hx : x.sz ≤ 1048576) : 1 + Sh.mcw (swapA t p x).1 ≤ 1099511627776 := by
  unfold swapA
  split
  · exact zsh_mc
  · split
    · exact zsh_mc
    · split
      · exact zsh_mc
      · split
        · exact zsh_mc
        · have h1 := swapR_sz p t x
          have h2 := smcw_le (swapR p t x)
          show 1 + Sh.mcw (swapR p t x) ≤ _
          omega
end Go.Proofs.Ythllilkokkijaaa
