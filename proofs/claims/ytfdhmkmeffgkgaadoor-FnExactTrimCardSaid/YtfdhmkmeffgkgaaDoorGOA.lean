/- An argument of the laws that is an Edit, opened. · An argument of the laws that is a row of Edits, opened. -/
import Derived.Test.YtfdhmkmeffgkgaaDoorGEdP
import Derived.Test.YtfdhmkmeffgkgaaDoorGShaO
import Derived.Test.YtfdhmkmeffgkgaaDoorGToE
namespace Go.Proofs.YtfdhmkmeffgkgaaDoor
open Go.ChangeShapes Go.WideShapes Go.Joins Go.RowKit

section
variable {H : Type} {enc : TypeId × Value → H} {w : World} {base : Nat} {spare : Nat → Bool} {held : Bool}

set_option maxRecDepth 100000 in
theorem open_ed1 (n : Nat) (cs : List Value) (x : DataW H × List MemPlace) (h : DataW.trod enc Tryd.prog w base spare held n 27 cs = some x) : ∃ t, IsEd w t (.agg cs.toArray) := by
  obtain ⟨xs, m, hm, _, hlen, hxl, hf⟩ := DataW.trod_struct Tryd.underlying27 h
  have hC : Tryd.prog.cellsOf 27 = 13 := by kernel_rfl
  have k0 : Tryd.prog.cellsOf 2 = 1 := by kernel_rfl
  have k1 : Tryd.prog.cellsOf 22 = 1 := by kernel_rfl
  have k2 : Tryd.prog.cellsOf 9 = 1 := by kernel_rfl
  have k3 : Tryd.prog.cellsOf 25 = 4 := by kernel_rfl
  match cs, hlen.trans hC with
  | [c0, c1, c2, c3, c4, c5, c6, c7, c8, c9, c10, c11, c12], _ =>
  have hx : xs.length = 7 := hxl
  match xs, hx with
  | [y0, y1, y2, y3, y4, y5, y6], _ =>
  have h0 : DataW.trod enc Tryd.prog w base spare held m 2 (([c0, c1, c2, c3, c4, c5, c6, c7, c8, c9, c10, c11, c12].drop 0).take (Tryd.prog.cellsOf 2)) = some y0 := hf 0 _ rfl
  have h1 : DataW.trod enc Tryd.prog w base spare held m 22 (([c0, c1, c2, c3, c4, c5, c6, c7, c8, c9, c10, c11, c12].drop 1).take (Tryd.prog.cellsOf 22)) = some y1 := hf 1 _ rfl
  have h2 : DataW.trod enc Tryd.prog w base spare held m 2 (([c0, c1, c2, c3, c4, c5, c6, c7, c8, c9, c10, c11, c12].drop 2).take (Tryd.prog.cellsOf 2)) = some y2 := hf 2 _ rfl
  have h3 : DataW.trod enc Tryd.prog w base spare held m 9 (([c0, c1, c2, c3, c4, c5, c6, c7, c8, c9, c10, c11, c12].drop 3).take (Tryd.prog.cellsOf 9)) = some y3 := hf 3 _ rfl
  have h4 : DataW.trod enc Tryd.prog w base spare held m 9 (([c0, c1, c2, c3, c4, c5, c6, c7, c8, c9, c10, c11, c12].drop 4).take (Tryd.prog.cellsOf 9)) = some y4 := hf 4 _ rfl
  have h5 : DataW.trod enc Tryd.prog w base spare held m 25 (([c0, c1, c2, c3, c4, c5, c6, c7, c8, c9, c10, c11, c12].drop 5).take (Tryd.prog.cellsOf 25)) = some y5 := hf 5 _ rfl
  have h6 : DataW.trod enc Tryd.prog w base spare held m 25 (([c0, c1, c2, c3, c4, c5, c6, c7, c8, c9, c10, c11, c12].drop 9).take (Tryd.prog.cellsOf 25)) = some y6 := hf 6 _ rfl
  rw [k0] at h0 h2
  rw [k1] at h1
  rw [k2] at h3 h4
  rw [k3] at h5 h6
  obtain ⟨k, hk, _, hw⟩ := DataW.trod_int Tryd.underlying2 (show DataW.trod enc Tryd.prog w base spare held m 2 [c0] = some y0 from h0)
  obtain ⟨pa, hp⟩ := open_strs1 (show DataW.trod enc Tryd.prog w base spare held m 22 [c1] = some y1 from h1)
  obtain ⟨n', hn, _, hw1⟩ := DataW.trod_int Tryd.underlying2 (show DataW.trod enc Tryd.prog w base spare held m 2 [c2] = some y2 from h2)
  obtain ⟨s, hs, _, hsz⟩ := DataW.trod_string Tryd.underlying9 (show DataW.trod enc Tryd.prog w base spare held m 9 [c3] = some y3 from h3)
  obtain ⟨u, hu, _, huz⟩ := DataW.trod_string Tryd.underlying9 (show DataW.trod enc Tryd.prog w base spare held m 9 [c4] = some y4 from h4)
  obtain ⟨t1, d0, d1, d2, d3, e1, g1⟩ := open_sh1 _ _ _ (show DataW.trod enc Tryd.prog w base spare held m 25 [c5, c6, c7, c8] = some y5 from h5)
  obtain ⟨t2, f0, f1, f2, f3, e2, g2⟩ := open_sh1 _ _ _ (show DataW.trod enc Tryd.prog w base spare held m 25 [c9, c10, c11, c12] = some y6 from h6)
  simp only [List.cons.injEq, and_true] at e1 e2 hk hn hs hu
  obtain ⟨rfl, rfl, rfl, rfl⟩ := e1
  obtain ⟨rfl, rfl, rfl, rfl⟩ := e2
  subst hk hn hs hu
  obtain ⟨p1, i1, j1, p2, i2, j2, p3, i3, j3, ea⟩ := g1.agg
  obtain ⟨q1, r1, l1, q2, r2, l2, q3, r3, l3, eb⟩ := g2.agg
  obtain ⟨z1, z2, a, cap, rfl, z3, z4, z6⟩ := hp
  simp only [Value.agg.injEq, Array.mk.injEq, List.cons.injEq, and_true] at ea eb
  obtain ⟨rfl, rfl, rfl, rfl⟩ := ea
  obtain ⟨rfl, rfl, rfl, rfl⟩ := eb
  have hki : InI64' k := by
    have := bounds_i64 hw
    unfold InI64'; omega
  have hni : InI64' n' := by
    have := bounds_i64 hw1
    unfold InI64'; omega
  exact ⟨⟨k, pa, n', s, u, t1, t2⟩, _, _, _, _, _, _, _, _, _, _, _, _, _, _, _, _, _, _, _, _, rfl, hki, hni, by unfold maxLen at hsz; omega, by unfold maxLen at huz; omega, ⟨z1, z2, a, cap, rfl, z3, z4, z6⟩, g1, g2⟩

set_option maxRecDepth 100000 in
theorem open_ed {r : Reach} {b0 : Nat} {v : Value} {d : DataW H} {p : List MemPlace} (hv : Value.okWide Tryd.prog w r b0 27 v) (h : DataW.Trod enc Tryd.prog w base spare held 27 v d p) : ∃ t, IsEd w t v := by
  obtain ⟨cs, rfl, _⟩ := okWide_struct Tryd.underlying27 hv
  obtain ⟨fuel, hf⟩ := h
  obtain ⟨t, ht⟩ := open_ed1 fuel _ _ hf
  exact ⟨t, by simpa [Value.cells] using ht⟩
end
end Go.Proofs.YtfdhmkmeffgkgaaDoor
namespace Go.Proofs.YtfdhmkmeffgkgaaDoor
open Go.ChangeShapes Go.WideShapes Go.Joins Go.RowKit

section
variable {H : Type} {enc : TypeId × Value → H} {w : World} {base : Nat} {spare : Nat → Bool} {held : Bool}

set_option maxRecDepth 100000 in
theorem open_eds1 {n : Nat} {v : Value} {x : DataW H × List MemPlace} (h : DataW.trod enc Tryd.prog w base spare held n 39 [v] = some x) : ∃ l, IsEds w v l := by
  have hC : Tryd.prog.cellsOf 27 = 13 := by kernel_rfl
  rcases DataW.trod_slice Tryd.underlying39 h with ⟨hcs, _⟩ | ⟨a, len, cap, elems, rest, m', hm', hcs, _, _, hl, hcap, hel, hi, _⟩
  · cases hcs
    exact ⟨[], none, 0, rfl, Nat.le_refl _, Nat.zero_le _, .inl rfl⟩
  · cases hcs
    have hT : ∀ i, i < len → ∃ z : Ed, ∃ d0 d1 d2 d3 d4 d5 d6 d7 d8 d9 d10 d11 d12, w.cell? ((a.add (i * 13)).add 0) = some d0 ∧ w.cell? ((a.add (i * 13)).add 1) = some d1 ∧ w.cell? ((a.add (i * 13)).add 2) = some d2 ∧ w.cell? ((a.add (i * 13)).add 3) = some d3 ∧ w.cell? ((a.add (i * 13)).add 4) = some d4 ∧ w.cell? ((a.add (i * 13)).add 5) = some d5 ∧ w.cell? ((a.add (i * 13)).add 6) = some d6 ∧ w.cell? ((a.add (i * 13)).add 7) = some d7 ∧ w.cell? ((a.add (i * 13)).add 8) = some d8 ∧ w.cell? ((a.add (i * 13)).add 9) = some d9 ∧ w.cell? ((a.add (i * 13)).add 10) = some d10 ∧ w.cell? ((a.add (i * 13)).add 11) = some d11 ∧ w.cell? ((a.add (i * 13)).add 12) = some d12 ∧ IsEd w z (.agg #[d0, d1, d2, d3, d4, d5, d6, d7, d8, d9, d10, d11, d12]) := fun i hil => by
      have hi2 := hi i hil
      rw [hC, List.getElem?_eq_getElem (by omega)] at hi2
      obtain ⟨cs', hc, ht⟩ := Option.bind_eq_some_iff.1 hi2
      obtain ⟨_, hcl, hat⟩ := World.cells?_some hc
      obtain ⟨z, hz⟩ := open_ed1 m' cs' _ ht
      match cs', hcl with
      | [d0, d1, d2, d3, d4, d5, d6, d7, d8, d9, d10, d11, d12], _ => exact ⟨z, d0, d1, d2, d3, d4, d5, d6, d7, d8, d9, d10, d11, d12, hat 0 (by omega), hat 1 (by omega), hat 2 (by omega), hat 3 (by omega), hat 4 (by omega), hat 5 (by omega), hat 6 (by omega), hat 7 (by omega), hat 8 (by omega), hat 9 (by omega), hat 10 (by omega), hat 11 (by omega), hat 12 (by omega), hz⟩
    have : Inhabited Ed := ⟨⟨0, [], 0, ⟨#[]⟩, ⟨#[]⟩, .mk 0 [] [] [], .mk 0 [] [] []⟩⟩
    obtain ⟨T, hT⟩ := Go.Deep.choose_lt hT
    have e : ((List.range len).map T).length = len := by simp
    refine ⟨(List.range len).map T, some a, cap, by rw [e], by rw [e]; exact hl, by unfold maxLen at hcap; omega, ?_⟩
    by_cases hz : len = 0
    · subst hz; exact .inl rfl
    · obtain ⟨d0, d1, d2, d3, d4, d5, d6, d7, d8, d9, d10, d11, d12, g0, g1, g2, g3, g4, g5, g6, g7, g8, g9, g10, g11, g12, _⟩ := hT 0 (by omega)
      have g0' : w.cell? (a.add 0) = some d0 := by simpa [Addr.add] using g0
      obtain ⟨b, off, rfl⟩ := spot_none g0'
      refine .inr ⟨b, off, rfl, fun i hi2 => ?_⟩
      obtain ⟨d0, d1, d2, d3, d4, d5, d6, d7, d8, d9, d10, d11, d12, g0, g1, g2, g3, g4, g5, g6, g7, g8, g9, g10, g11, g12, g13⟩ := hT i (by simpa using hi2)
      simp only [plain_add, Nat.add_zero] at g0 g1 g2 g3 g4 g5 g6 g7 g8 g9 g10 g11 g12
      exact ⟨d0, d1, d2, d3, d4, d5, d6, d7, d8, d9, d10, d11, d12, g0, g1, g2, g3, g4, g5, g6, g7, g8, g9, g10, g11, g12, by simpa using g13⟩

set_option maxRecDepth 100000 in
theorem open_eds {r : Reach} {b0 : Nat} {v : Value} {d : DataW H} {p : List MemPlace} (hv : Value.okWide Tryd.prog w r b0 39 v) (h : DataW.Trod enc Tryd.prog w base spare held 39 v d p) : ∃ l, IsEds w v l := by
  obtain ⟨a, len, cap, rfl⟩ := okWide_slice Tryd.underlying39 hv
  obtain ⟨fuel, hf⟩ := h
  exact open_eds1 hf
end
end Go.Proofs.YtfdhmkmeffgkgaaDoor
