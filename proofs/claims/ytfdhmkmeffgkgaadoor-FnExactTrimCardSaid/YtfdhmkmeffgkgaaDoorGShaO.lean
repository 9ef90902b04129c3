/- An argument of the laws that is a shape, opened. · An argument of the laws that is a Val, opened. -/
import Derived.Test.YtfdhmkmeffgkgaaDoorGShVa
import Derived.Test.YtfdhmkmeffgkgaaDoorGFrame
import Derived.Lib.SmallJoins
import Derived.Deep.Slices
import Derived.ChangeSame
namespace Go.Proofs.YtfdhmkmeffgkgaaDoor
open Go.ChangeShapes Go.WideShapes Go.Joins Go.RowKit

section
variable {H : Type} {enc : TypeId × Value → H} {w : World} {base : Nat} {spare : Nat → Bool} {held : Bool}

theorem spot_none {w : World} {a : Addr} {v : Value} (h : w.cell? (a.add 0) = some v) : ∃ b off, a = ⟨b, off, none⟩ := by
  cases a with | mk b off s =>
    cases s with
    | none => exact ⟨b, off, rfl⟩
    | some x =>
      simp [Addr.add, World.cell?] at h
      split at h <;> simp at h
theorem plain_add (b off i : Nat) : (⟨b, off, none⟩ : Addr).add i = ⟨b, off + i, none⟩ := by unfold Addr.add; split <;> simp_all

theorem open_strs1 {n : Nat} {v : Value} {x : DataW H × List MemPlace} (h : DataW.trod enc Tryd.prog w base spare held n 22 [v] = some x) : ∃ l, IsStrs w v l := by
  rcases Go.Deep.open_slice1 Tryd.underlying22 (by kernel_rfl) h with ⟨hcs, _⟩ | ⟨a, len, cap, m, n', V, D, Pl, hcs, _, hl, hm, hmm, _, hi⟩
  · cases hcs
    exact ⟨[], by simp, by simp, none, 0, rfl, Nat.le_refl _, Nat.zero_le _, .inl rfl⟩
  · cases hcs
    have hlm : len ≤ m := by rw [hmm]; split <;> omega
    have hS : ∀ i, i < len → ∃ s : ByteArray, V i = .string s ∧ s.size ≤ maxLen := fun i hil => by
      obtain ⟨_, h2⟩ := hi i (by omega)
      obtain ⟨s, hs, _, hsz⟩ := DataW.trod_string Tryd.underlying9 h2
      simp at hs
      exact ⟨s, hs, hsz⟩
    obtain ⟨S, hS⟩ := Go.Deep.choose_lt hS
    have e : ((List.range len).map S).length = len := by simp
    refine ⟨(List.range len).map S, ?_, ?_, some a, cap, by rw [e], by rw [e]; exact hl, hm, ?_⟩
    · rw [e]; unfold maxLen at hm; omega
    · intro s hs
      obtain ⟨i, hi2, rfl⟩ := List.mem_map.1 hs
      have := (hS i (by simpa using hi2)).2
      unfold maxLen at this; omega
    · by_cases h0 : len = 0
      · subst h0; exact .inl rfl
      · obtain ⟨b, off, rfl⟩ := spot_none (hi 0 (by omega)).1
        refine .inr ⟨b, off, rfl, fun i hi2 => ?_⟩
        have hil : i < len := by simpa using hi2
        have := (hi i (by omega)).1
        rw [plain_add] at this
        rw [this, (hS i hil).1]
        simp

set_option maxRecDepth 100000 in
theorem open_sh1 : ∀ (n : Nat) (cs : List Value) (x : DataW H × List MemPlace), DataW.trod enc Tryd.prog w base spare held n 25 cs = some x → ∃ t c0 c1 c2 c3, cs = [c0, c1, c2, c3] ∧ IsSh w t (.agg #[c0, c1, c2, c3]) := by
  intro n
  induction n using Nat.strongRecOn with
  | ind n ih =>
    intro cs x h
    obtain ⟨xs, m, hm, _, hlen, hxl, hf⟩ := DataW.trod_struct Tryd.underlying25 h
    have hC : Tryd.prog.cellsOf 25 = 4 := by kernel_rfl
    have k0 : Tryd.prog.cellsOf 2 = 1 := by kernel_rfl
    have k1 : Tryd.prog.cellsOf 22 = 1 := by kernel_rfl
    have k3 : Tryd.prog.cellsOf 23 = 1 := by kernel_rfl
    match cs, hlen.trans hC with
    | [c0, c1, c2, c3], _ =>
    have hx : xs.length = 4 := hxl
    match xs, hx with
    | [y0, y1, y2, y3], _ =>
    have h0 : DataW.trod enc Tryd.prog w base spare held m 2 (([c0, c1, c2, c3].drop 0).take (Tryd.prog.cellsOf 2)) = some y0 := hf 0 _ rfl
    have h1 : DataW.trod enc Tryd.prog w base spare held m 22 (([c0, c1, c2, c3].drop 1).take (Tryd.prog.cellsOf 22)) = some y1 := hf 1 _ rfl
    have h2 : DataW.trod enc Tryd.prog w base spare held m 22 (([c0, c1, c2, c3].drop 2).take (Tryd.prog.cellsOf 22)) = some y2 := hf 2 _ rfl
    have h3 : DataW.trod enc Tryd.prog w base spare held m 23 (([c0, c1, c2, c3].drop 3).take (Tryd.prog.cellsOf 23)) = some y3 := hf 3 _ rfl
    rw [k0] at h0
    rw [k1] at h1 h2
    rw [k3] at h3
    obtain ⟨k, hk, _, hw⟩ := DataW.trod_int Tryd.underlying2 (show DataW.trod enc Tryd.prog w base spare held m 2 [c0] = some y0 from h0)
    obtain ⟨sy, hs⟩ := open_strs1 (show DataW.trod enc Tryd.prog w base spare held m 22 [c1] = some y1 from h1)
    obtain ⟨na, hn⟩ := open_strs1 (show DataW.trod enc Tryd.prog w base spare held m 22 [c2] = some y2 from h2)
    simp at hk
    subst hk
    have hki : InI64' k := by
      have := bounds_i64 hw
      unfold InI64'; omega
    rcases DataW.trod_slice Tryd.underlying23 (show DataW.trod enc Tryd.prog w base spare held m 23 [c3] = some y3 from h3) with ⟨hcs, _⟩ | ⟨a, len, cap, elems, rest, m', hm', hcs, _, _, hl, hcap, hel, hi, _⟩
    · cases hcs
      exact ⟨.mk k sy na [], _, _, _, _, rfl, IsSh.mk hki hs hn ⟨none, 0, rfl, Nat.le_refl _, Nat.zero_le _, .inl rfl⟩⟩
    · cases hcs
      have hT : ∀ i, i < len → ∃ z : Sh, ∃ d0 d1 d2 d3, w.cell? ((a.add (i * 4)).add 0) = some d0 ∧ w.cell? ((a.add (i * 4)).add 1) = some d1 ∧ w.cell? ((a.add (i * 4)).add 2) = some d2 ∧ w.cell? ((a.add (i * 4)).add 3) = some d3 ∧ IsSh w z (.agg #[d0, d1, d2, d3]) := fun i hil => by
        have hi2 := hi i hil
        rw [hC, List.getElem?_eq_getElem (by omega)] at hi2
        obtain ⟨cs', hc, ht⟩ := Option.bind_eq_some_iff.1 hi2
        obtain ⟨_, hcl, hat⟩ := World.cells?_some hc
        obtain ⟨z, d0, d1, d2, d3, rfl, hz⟩ := ih m' (by omega) cs' _ ht
        exact ⟨z, d0, d1, d2, d3, hat 0 (by omega), hat 1 (by omega), hat 2 (by omega), hat 3 (by omega), hz⟩
      have : Inhabited Sh := ⟨.mk 0 [] [] []⟩
      obtain ⟨T, hT⟩ := Go.Deep.choose_lt hT
      have e : ((List.range len).map T).length = len := by simp
      refine ⟨.mk k sy na ((List.range len).map T), _, _, _, _, rfl, IsSh.mk hki hs hn ⟨some a, cap, by rw [e], by rw [e]; exact hl, by unfold maxLen at hcap; omega, ?_⟩⟩
      by_cases hz : len = 0
      · subst hz; exact .inl rfl
      · obtain ⟨d0, d1, d2, d3, g0, _⟩ := hT 0 (by omega)
        have g0' : w.cell? (a.add 0) = some d0 := by simpa [Addr.add] using g0
        obtain ⟨b, off, rfl⟩ := spot_none g0'
        refine .inr ⟨b, off, rfl, ShAt.of_get fun i hi2 => ?_⟩
        obtain ⟨d0, d1, d2, d3, g0, g1, g2, g3, g4⟩ := hT i (by simpa using hi2)
        simp only [plain_add, Nat.add_zero] at g0 g1 g2 g3
        refine ⟨d0, d1, d2, d3, g0, g1, g2, g3, ?_⟩
        simpa using g4

set_option maxRecDepth 100000 in
theorem open_sh {r : Reach} {b0 : Nat} {v : Value} {d : DataW H} {p : List MemPlace} (hv : Value.okWide Tryd.prog w r b0 25 v) (h : DataW.Trod enc Tryd.prog w base spare held 25 v d p) : ∃ t, IsSh w t v := by
  obtain ⟨cs, rfl, _⟩ := okWide_struct Tryd.underlying25 hv
  obtain ⟨fuel, hf⟩ := h
  obtain ⟨t, c0, c1, c2, c3, hcs, ht⟩ := open_sh1 fuel _ _ hf
  refine ⟨t, ?_⟩
  have : cs = #[c0, c1, c2, c3] := by
    apply Array.ext'
    simpa [Value.cells] using hcs
  rw [this]; exact ht
end
end Go.Proofs.YtfdhmkmeffgkgaaDoor
namespace Go.Proofs.YtfdhmkmeffgkgaaDoor
open Go.ChangeShapes Go.WideShapes Go.Joins Go.RowKit

section
variable {H : Type} {enc : TypeId × Value → H} {w : World} {base : Nat} {spare : Nat → Bool} {held : Bool}

end
end Go.Proofs.YtfdhmkmeffgkgaaDoor
