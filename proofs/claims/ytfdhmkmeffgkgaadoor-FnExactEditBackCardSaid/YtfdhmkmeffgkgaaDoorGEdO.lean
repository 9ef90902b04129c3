/- An argument of the laws that is an Edit, opened. -/
import Derived.Test.YtfdhmkmeffgkgaaDoorGEdP
import Derived.Test.YtfdhmkmeffgkgaaDoorGShaO
namespace Go.Proofs.YtfdhmkmeffgkgaaDoor
open Go.ChangeShapes Go.WideShapes Go.Joins Go.RowKit

section
variable {H : Type} {enc : TypeId × Value → H} {w : World} {base : Nat} {spare : Nat → Bool} {held : Bool}

set_option maxRecDepth 100000 in
theorem open_ed1 (n : Nat) (cs : List Value) (x : DataW H × List MemPlace) (h : DataW.trod enc Tryd.prog w base spare held n 27 cs = some x) : ∃ t, IsEd w t (.agg cs.toArray) := by
  obtain ⟨xs, m, hm, _, hlen, hxl, hf⟩ := DataW.trod_struct Tryd.underlying27 h
  have hC : Tryd.prog.cellsOf 27 = 13 := by kernel_rfl
  have k0 : Tryd.prog.cellsOf 2 = 1 := by kernel_rfl
  have k1 : Tryd.prog.cellsOf 22 = 1 := by kernel_rfl
  have k2 : Tryd.prog.cellsOf 9 = 1 := by kernel_rfl
  have k3 : Tryd.prog.cellsOf 25 = 4 := by kernel_rfl
  match cs, hlen.trans hC with
  | [c0, c1, c2, c3, c4, c5, c6, c7, c8, c9, c10, c11, c12], _ =>
  have hx : xs.length = 7 := hxl
  match xs, hx with
  | [y0, y1, y2, y3, y4, y5, y6], _ =>
  have h0 : DataW.trod enc Tryd.prog w base spare held m 2 (([c0, c1, c2, c3, c4, c5, c6, c7, c8, c9, c10, c11, c12].drop 0).take (Tryd.prog.cellsOf 2)) = some y0 := hf 0 _ rfl
  have h1 : DataW.trod enc Tryd.prog w base spare held m 22 (([c0, c1, c2, c3, c4, c5, c6, c7, c8, c9, c10, c11, c12].drop 1).take (Tryd.prog.cellsOf 22)) = some y1 := hf 1 _ rfl
  have h2 : DataW.trod enc Tryd.prog w base spare held m 2 (([c0, c1, c2, c3, c4, c5, c6, c7, c8, c9, c10, c11, c12].drop 2).take (Tryd.prog.cellsOf 2)) = some y2 := hf 2 _ rfl
  have h3 : DataW.trod enc Tryd.prog w base spare held m 9 (([c0, c1, c2, c3, c4, c5, c6, c7, c8, c9, c10, c11, c12].drop 3).take (Tryd.prog.cellsOf 9)) = some y3 := hf 3 _ rfl
  have h4 : DataW.trod enc Tryd.prog w base spare held m 9 (([c0, c1, c2, c3, c4, c5, c6, c7, c8, c9, c10, c11, c12].drop 4).take (Tryd.prog.cellsOf 9)) = some y4 := hf 4 _ rfl
  have h5 : DataW.trod enc Tryd.prog w base spare held m 25 (([c0, c1, c2, c3, c4, c5, c6, c7, c8, c9, c10, c11, c12].drop 5).take (Tryd.prog.cellsOf 25)) = some y5 := hf 5 _ rfl
  have h6 : DataW.trod enc Tryd.prog w base spare held m 25 (([c0, c1, c2, c3, c4, c5, c6, c7, c8, c9, c10, c11, c12].drop 9).take (Tryd.prog.cellsOf 25)) = some y6 := hf 6 _ rfl
  rw [k0] at h0 h2
  rw [k1] at h1
  rw [k2] at h3 h4
  rw [k3] at h5 h6
  obtain ⟨k, hk, _, hw⟩ := DataW.trod_int Tryd.underlying2 (show DataW.trod enc Tryd.prog w base spare held m 2 [c0] = some y0 from h0)
  obtain ⟨pa, hp⟩ := open_strs1 (show DataW.trod enc Tryd.prog w base spare held m 22 [c1] = some y1 from h1)
  obtain ⟨n', hn, _, hw1⟩ := DataW.trod_int Tryd.underlying2 (show DataW.trod enc Tryd.prog w base spare held m 2 [c2] = some y2 from h2)
  obtain ⟨s, hs, _, hsz⟩ := DataW.trod_string Tryd.underlying9 (show DataW.trod enc Tryd.prog w base spare held m 9 [c3] = some y3 from h3)
  obtain ⟨u, hu, _, huz⟩ := DataW.trod_string Tryd.underlying9 (show DataW.trod enc Tryd.prog w base spare held m 9 [c4] = some y4 from h4)
  obtain ⟨t1, d0, d1, d2, d3, e1, g1⟩ := open_sh1 _ _ _ (show DataW.trod enc Tryd.prog w base spare held m 25 [c5, c6, c7, c8] = some y5 from h5)
  obtain ⟨t2, f0, f1, f2, f3, e2, g2⟩ := open_sh1 _ _ _ (show DataW.trod enc Tryd.prog w base spare held m 25 [c9, c10, c11, c12] = some y6 from h6)
  simp only [List.cons.injEq, and_true] at e1 e2 hk hn hs hu
  obtain ⟨rfl, rfl, rfl, rfl⟩ := e1
  obtain ⟨rfl, rfl, rfl, rfl⟩ := e2
  subst hk hn hs hu
  obtain ⟨p1, i1, j1, p2, i2, j2, p3, i3, j3, ea⟩ := g1.agg
  obtain ⟨q1, r1, l1, q2, r2, l2, q3, r3, l3, eb⟩ := g2.agg
  obtain ⟨z1, z2, a, cap, rfl, z3, z4, z6⟩ := hp
  simp only [Value.agg.injEq, Array.mk.injEq, List.cons.injEq, and_true] at ea eb
  obtain ⟨rfl, rfl, rfl, rfl⟩ := ea
  obtain ⟨rfl, rfl, rfl, rfl⟩ := eb
  have hki : InI64' k := by
    have := bounds_i64 hw
    unfold InI64'; omega
  have hni : InI64' n' := by
    have := bounds_i64 hw1
    unfold InI64'; omega
  exact ⟨⟨k, pa, n', s, u, t1, t2⟩, _, _, _, _, _, _, _, _, _, _, _, _, _, _, _, _, _, _, _, _, rfl, hki, hni, by unfold maxLen at hsz; omega, by unfold maxLen at huz; omega, ⟨z1, z2, a, cap, rfl, z3, z4, z6⟩, g1, g2⟩

set_option maxRecDepth 100000 in
theorem open_ed {r : Reach} {b0 : Nat} {v : Value} {d : DataW H} {p : List MemPlace} (hv : Value.okWide Tryd.prog w r b0 27 v) (h : DataW.Trod enc Tryd.prog w base spare held 27 v d p) : ∃ t, IsEd w t v := by
  obtain ⟨cs, rfl, _⟩ := okWide_struct Tryd.underlying27 hv
  obtain ⟨fuel, hf⟩ := h
  obtain ⟨t, ht⟩ := open_ed1 fuel _ _ hf
  exact ⟨t, by simpa [Value.cells] using ht⟩
end
end Go.Proofs.YtfdhmkmeffgkgaaDoor
