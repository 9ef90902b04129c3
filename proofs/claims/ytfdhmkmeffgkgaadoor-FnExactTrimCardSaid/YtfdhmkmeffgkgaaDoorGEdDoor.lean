/- What the tied cards of this seat use that list impl.editKinds: the table of the Kinds stands in its block. -/
import Derived.Test.YtfdhmkmeffgkgaaDoorGFrame
import Derived.Test.YtfdhmkmeffgkgaaDoorTie
import Derived.Test.YtfdhmkmeffgkgaaDoorCards
import Derived.Test.YtfdhmkmeffgkgaaDoorGEdA
import Derived.ChangeSame
import Derived.ChangeVars
import Derived.JoinedOf
import Derived.RowKit
import Derived.LaidLaws
import Derived.LaidHandle
import Derived.MakeChecks
import Derived.OpenVars
import Derived.SevenTiedAt
namespace Go.Proofs.YtfdhmkmeffgkgaaDoor
open Go.ChangeShapes Go.WideShapes Go.RowKit

theorem door_ek : Tryd.prog.globalNamed "loop.example/g00848/impl.editKinds" = some 0 := by kernel_rfl
theorem door_ekT : (Tryd.prog.globals[0]?).map (·.type) = some 73 := by kernel_rfl
theorem door_ek8 : Tryd.prog.cellsOf 72 = 8 := by kernel_rfl

section
variable {H : Type} {enc : TypeId × Value → H} {w : World} {base : Nat} {spare : Nat → Bool} {held : Bool}
set_option maxRecDepth 100000 in
theorem ek_row {n : Nat} {cs : List Value} {x : DataW H × List MemPlace} (h : DataW.trod enc Tryd.prog w base spare held n 72 cs = some x) (s : List UInt8) (a b : Int) (b0 b1 b2 b3 b4 : Bool)
    (hx : x.1 = .agg [.lit (.string s), .lit (.int .i64 a), .lit (.int .i64 b), .lit (.bool b0), .lit (.bool b1), .lit (.bool b2), .lit (.bool b3), .lit (.bool b4)]) :
    cs = [.string ⟨s.toArray⟩, .int .i64 a, .int .i64 b, .bool b0, .bool b1, .bool b2, .bool b3, .bool b4] := by
  obtain ⟨xs, m, hm, rfl, hlen, hxl, hf⟩ := DataW.trod_struct Tryd.underlying72 h
  have k0 : Tryd.prog.cellsOf 2 = 1 := by kernel_rfl
  have k1 : Tryd.prog.cellsOf 9 = 1 := by kernel_rfl
  have k2 : Tryd.prog.cellsOf 4 = 1 := by kernel_rfl
  match cs, hlen.trans door_ek8 with
  | [c0, c1, c2, c3, c4, c5, c6, c7], _ =>
  have hx8 : xs.length = 8 := hxl
  match xs, hx8 with
  | [y0, y1, y2, y3, y4, y5, y6, y7], _ =>
  have h0 : DataW.trod enc Tryd.prog w base spare held m 9 (([c0, c1, c2, c3, c4, c5, c6, c7].drop 0).take (Tryd.prog.cellsOf 9)) = some y0 := hf 0 _ rfl
  have h1 : DataW.trod enc Tryd.prog w base spare held m 2 (([c0, c1, c2, c3, c4, c5, c6, c7].drop 1).take (Tryd.prog.cellsOf 2)) = some y1 := hf 1 _ rfl
  have h2 : DataW.trod enc Tryd.prog w base spare held m 2 (([c0, c1, c2, c3, c4, c5, c6, c7].drop 2).take (Tryd.prog.cellsOf 2)) = some y2 := hf 2 _ rfl
  have h3 : DataW.trod enc Tryd.prog w base spare held m 4 (([c0, c1, c2, c3, c4, c5, c6, c7].drop 3).take (Tryd.prog.cellsOf 4)) = some y3 := hf 3 _ rfl
  have h4 : DataW.trod enc Tryd.prog w base spare held m 4 (([c0, c1, c2, c3, c4, c5, c6, c7].drop 4).take (Tryd.prog.cellsOf 4)) = some y4 := hf 4 _ rfl
  have h5 : DataW.trod enc Tryd.prog w base spare held m 4 (([c0, c1, c2, c3, c4, c5, c6, c7].drop 5).take (Tryd.prog.cellsOf 4)) = some y5 := hf 5 _ rfl
  have h6 : DataW.trod enc Tryd.prog w base spare held m 4 (([c0, c1, c2, c3, c4, c5, c6, c7].drop 6).take (Tryd.prog.cellsOf 4)) = some y6 := hf 6 _ rfl
  have h7 : DataW.trod enc Tryd.prog w base spare held m 4 (([c0, c1, c2, c3, c4, c5, c6, c7].drop 7).take (Tryd.prog.cellsOf 4)) = some y7 := hf 7 _ rfl
  rw [k1] at h0
  rw [k0] at h1 h2
  rw [k2] at h3 h4 h5 h6 h7
  obtain ⟨v0, e0, r0, _⟩ := DataW.trod_string Tryd.underlying9 (show DataW.trod enc Tryd.prog w base spare held m 9 [c0] = some y0 from h0)
  obtain ⟨v1, e1, r1, _⟩ := DataW.trod_int Tryd.underlying2 (show DataW.trod enc Tryd.prog w base spare held m 2 [c1] = some y1 from h1)
  obtain ⟨v2, e2, r2, _⟩ := DataW.trod_int Tryd.underlying2 (show DataW.trod enc Tryd.prog w base spare held m 2 [c2] = some y2 from h2)
  obtain ⟨v3, e3, r3⟩ := DataW.trod_bool Tryd.underlying4 (show DataW.trod enc Tryd.prog w base spare held m 4 [c3] = some y3 from h3)
  obtain ⟨v4, e4, r4⟩ := DataW.trod_bool Tryd.underlying4 (show DataW.trod enc Tryd.prog w base spare held m 4 [c4] = some y4 from h4)
  obtain ⟨v5, e5, r5⟩ := DataW.trod_bool Tryd.underlying4 (show DataW.trod enc Tryd.prog w base spare held m 4 [c5] = some y5 from h5)
  obtain ⟨v6, e6, r6⟩ := DataW.trod_bool Tryd.underlying4 (show DataW.trod enc Tryd.prog w base spare held m 4 [c6] = some y6 from h6)
  obtain ⟨v7, e7, r7⟩ := DataW.trod_bool Tryd.underlying4 (show DataW.trod enc Tryd.prog w base spare held m 4 [c7] = some y7 from h7)
  subst r0 r1 r2 r3 r4 r5 r6 r7
  simp only [List.cons.injEq, and_true] at e0 e1 e2 e3 e4 e5 e6 e7
  subst e0 e1 e2 e3 e4 e5 e6 e7
  simp at hx
  obtain ⟨g0, g1, g2, g3, g4, g5, g6, g7⟩ := hx
  subst g0 g1 g2 g3 g4 g5 g6 g7
  rfl
end

set_option maxRecDepth 100000 in
set_option maxHeartbeats 1000000 in
theorem kw_of_laid {W : World} (h : laidMetH Tryd.prog [("loop.example/g00848/impl.editKinds", Rows.laid_loop_example_g00848_impl_editKinds)] W) : EkAt W := by
  rw [MakeChecks.laidMetH_plain _ _ _ (by kernel_rfl)] at h
  obtain ⟨ps, ⟨g, t, cs, fuel, p, q, hg, ht, hvar, hd, _, _⟩, _⟩ := h
  obtain rfl := Option.some.inj (door_ek.symm.trans hg)
  obtain rfl := Option.some.inj (door_ekT.symm.trans ht)
  obtain ⟨xs, m, rfl, hx, hlen, hxl, hi⟩ := DataW.trod_array Tryd.underlying73 hd
  intro k hk
  have hik := hi k hk
  rw [door_ek8] at hik
  obtain ⟨y, hy⟩ : ∃ y, xs[k]? = some y := ⟨xs[k], List.getElem?_eq_getElem (by omega)⟩
  rw [hy] at hik
  have hL := congrArg Prod.fst hx
  have h1 : (xs.map (·.1))[k]? = some y.1 := by rw [List.getElem?_map, hy]; rfl
  injection hL with hL
  rw [← hL] at h1
  have key : ∀ r0 r1 r2 r3 r4 r5 r6 r7 : Value, (cs.toList.drop (k * 8)).take 8 = [r0, r1, r2, r3, r4, r5, r6, r7] → W.cell? ⟨0, k * 8, none⟩ = some r0 ∧ W.cell? ⟨0, k * 8 + 1, none⟩ = some r1 ∧ W.cell? ⟨0, k * 8 + 2, none⟩ = some r2 ∧ W.cell? ⟨0, k * 8 + 3, none⟩ = some r3 ∧ W.cell? ⟨0, k * 8 + 4, none⟩ = some r4 ∧ W.cell? ⟨0, k * 8 + 5, none⟩ = some r5 ∧ W.cell? ⟨0, k * 8 + 6, none⟩ = some r6 ∧ W.cell? ⟨0, k * 8 + 7, none⟩ = some r7 := by
    intro r0 r1 r2 r3 r4 r5 r6 r7 e
    have at' : ∀ j, j < 8 → W.cell? ⟨0, k * 8 + j, none⟩ = [r0, r1, r2, r3, r4, r5, r6, r7][j]? := by
      intro j hj
      rw [World.var?_cell door_ek hvar (k * 8 + j), ← e, List.getElem?_take, if_pos hj, List.getElem?_drop, Array.getElem?_toList]
    exact ⟨at' 0 (by omega), at' 1 (by omega), at' 2 (by omega), at' 3 (by omega), at' 4 (by omega), at' 5 (by omega), at' 6 (by omega), at' 7 (by omega)⟩
  have hc : k = 0 ∨ k = 1 ∨ k = 2 ∨ k = 3 ∨ k = 4 ∨ k = 5 ∨ k = 6 ∨ k = 7 ∨ k = 8 ∨ k = 9 ∨ k = 10 := by omega
  rcases hc with rfl | rfl | rfl | rfl | rfl | rfl | rfl | rfl | rfl | rfl | rfl
  · exact key _ _ _ _ _ _ _ _ (ek_row hik [] 0 0 false false false false false (Option.some.inj (h1.symm.trans rfl)))
  · exact key _ _ _ _ _ _ _ _ (ek_row hik [97, 100, 100] 2 7 true true false true false (Option.some.inj (h1.symm.trans rfl)))
  · exact key _ _ _ _ _ _ _ _ (ek_row hik [100, 114, 111, 112] 1 7 true true false true false (Option.some.inj (h1.symm.trans rfl)))
  · exact key _ _ _ _ _ _ _ _ (ek_row hik [110, 97, 109, 101] 3 7 false true true false false (Option.some.inj (h1.symm.trans rfl)))
  · exact key _ _ _ _ _ _ _ _ (ek_row hik [115, 121, 109] 5 4 true true false false false (Option.some.inj (h1.symm.trans rfl)))
  · exact key _ _ _ _ _ _ _ _ (ek_row hik [117, 110, 115, 121, 109] 4 4 true true false false false (Option.some.inj (h1.symm.trans rfl)))
  · exact key _ _ _ _ _ _ _ _ (ek_row hik [109, 97, 121, 98, 101] 7 0 false false false false false (Option.some.inj (h1.symm.trans rfl)))
  · exact key _ _ _ _ _ _ _ _ (ek_row hik [115, 117, 114, 101] 6 5 false false false false false (Option.some.inj (h1.symm.trans rfl)))
  · exact key _ _ _ _ _ _ _ _ (ek_row hik [108, 105, 115, 116] 9 0 false false false false false (Option.some.inj (h1.symm.trans rfl)))
  · exact key _ _ _ _ _ _ _ _ (ek_row hik [111, 110, 101] 8 6 false false false false false (Option.some.inj (h1.symm.trans rfl)))
  · exact key _ _ _ _ _ _ _ _ (ek_row hik [115, 101, 116] 10 0 false false false true true (Option.some.inj (h1.symm.trans rfl)))

/-- A world that meets the condition: the settled one, the variable's cells laid. -/
noncomputable def laidWorld (os : Os) : World :=
  let w0 := World.holding Tryd.prog os ⟨#[], #[], []⟩
  { w0 with heap := w0.heap.modify 0 fun
      | .cells _ t frozen => .cells #[.string ⟨#[]⟩, .int .i64 0, .int .i64 0, .bool false, .bool false, .bool false, .bool false, .bool false, .string ⟨#[97, 100, 100]⟩, .int .i64 2, .int .i64 7, .bool true, .bool true, .bool false, .bool true, .bool false, .string ⟨#[100, 114, 111, 112]⟩, .int .i64 1, .int .i64 7, .bool true, .bool true, .bool false, .bool true, .bool false, .string ⟨#[110, 97, 109, 101]⟩, .int .i64 3, .int .i64 7, .bool false, .bool true, .bool true, .bool false, .bool false, .string ⟨#[115, 121, 109]⟩, .int .i64 5, .int .i64 4, .bool true, .bool true, .bool false, .bool false, .bool false, .string ⟨#[117, 110, 115, 121, 109]⟩, .int .i64 4, .int .i64 4, .bool true, .bool true, .bool false, .bool false, .bool false, .string ⟨#[109, 97, 121, 98, 101]⟩, .int .i64 7, .int .i64 0, .bool false, .bool false, .bool false, .bool false, .bool false, .string ⟨#[115, 117, 114, 101]⟩, .int .i64 6, .int .i64 5, .bool false, .bool false, .bool false, .bool false, .bool false, .string ⟨#[108, 105, 115, 116]⟩, .int .i64 9, .int .i64 0, .bool false, .bool false, .bool false, .bool false, .bool false, .string ⟨#[111, 110, 101]⟩, .int .i64 8, .int .i64 6, .bool false, .bool false, .bool false, .bool false, .bool false, .string ⟨#[115, 101, 116]⟩, .int .i64 10, .int .i64 0, .bool false, .bool false, .bool false, .bool true, .bool true] t frozen
      | o => o }
theorem laidWorld_met (os : Os) (args : Array Value) : laidMetH Tryd.prog [("loop.example/g00848/impl.editKinds", Rows.laid_loop_example_g00848_impl_editKinds)] ((laidWorld os).forCall (fun _ _ => 0) ⟨#[], args, []⟩).memory := by
  rw [MakeChecks.laidMetH_plain _ _ _ (by kernel_rfl)]
  exact laidMet_of_run' 8 (by kernel_rfl) (by kernel_rfl)
end Go.Proofs.YtfdhmkmeffgkgaaDoor
