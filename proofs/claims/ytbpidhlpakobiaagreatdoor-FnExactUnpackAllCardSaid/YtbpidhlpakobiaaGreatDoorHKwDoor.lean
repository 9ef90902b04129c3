/- What the tied cards of this seat use that list impl.kindWords: the table of the kinds' words stands in its block. -/
import Derived.Test.YtbpidhlpakobiaaGreatDoorHFrame
import Derived.Test.YtbpidhlpakobiaaGreatDoorTie
import Derived.Test.YtbpidhlpakobiaaGreatDoorCards
import Derived.Test.YtbpidhlpakobiaaGreatDoorHAppB
import Derived.ChangeSame
import Derived.ChangeVars
import Derived.JoinedOf
import Derived.RowKit
import Derived.LaidLaws
import Derived.LaidHandle
import Derived.MakeChecks
import Derived.OpenVars
import Derived.SevenTiedAt
namespace Go.Proofs.YtbpidhlpakobiaaGreatDoor
open Go.ChangeShapes Go.WideShapes Go.RowKit

theorem door_kw : Tryz.prog.globalNamed "loop.example/g00848/impl.kindWords" = some 2 := by kernel_rfl
theorem door_kwT : (Tryz.prog.globals[2]?).map (·.type) = some 182 := by kernel_rfl
theorem door_one : Tryz.prog.cellsOf 9 = 1 := by kernel_rfl

set_option maxRecDepth 100000 in
theorem kw_of_laid {W : World} (h : laidMetH Tryz.prog [("loop.example/g00848/impl.kindWords", Rows.laid_loop_example_g00848_impl_kindWords)] W) : KwAt W := by
  rw [MakeChecks.laidMetH_plain _ _ _ (by kernel_rfl)] at h
  obtain ⟨ps, ⟨g, t, cs, fuel, p, q, hg, ht, hvar, hd, _, _⟩, _⟩ := h
  obtain rfl := Option.some.inj (door_kw.symm.trans hg)
  obtain rfl := Option.some.inj (door_kwT.symm.trans ht)
  obtain ⟨xs, m, rfl, hx, hlen, hxl, hi⟩ := DataW.trod_array Tryz.underlying182 hd
  intro k hk
  have hik := hi k hk
  rw [door_one, List.getElem?_eq_getElem (by omega)] at hik
  obtain ⟨s, hs, hy, _⟩ := DataW.trod_string Tryz.underlying9 hik
  have hc : cs[k]? = some (.string s) := by
    have h0 := congrArg (fun l : List Value => l[0]?) hs
    rw [Nat.mul_one] at h0
    simpa using h0
  have hL := congrArg Prod.fst hx
  have h1 : (xs.map (·.1))[k]? = some (.lit (.string s.data.toList)) := by
    rw [List.getElem?_map, List.getElem?_eq_getElem (by omega), hy]; rfl
  injection hL with hL
  rw [← hL] at h1
  rw [World.var?_cell door_kw hvar k, hc]
  have fin : s.data.toList = kwB k := by
    match k, hk with
    | 0, _ => exact (Lit.string.inj (DataW.lit.inj (Option.some.inj h1))).symm.trans rfl
    | 1, _ => exact (Lit.string.inj (DataW.lit.inj (Option.some.inj h1))).symm.trans rfl
    | 2, _ => exact (Lit.string.inj (DataW.lit.inj (Option.some.inj h1))).symm.trans rfl
    | 3, _ => exact (Lit.string.inj (DataW.lit.inj (Option.some.inj h1))).symm.trans rfl
    | 4, _ => exact (Lit.string.inj (DataW.lit.inj (Option.some.inj h1))).symm.trans rfl
    | 5, _ => exact (Lit.string.inj (DataW.lit.inj (Option.some.inj h1))).symm.trans rfl
    | 6, _ => exact (Lit.string.inj (DataW.lit.inj (Option.some.inj h1))).symm.trans rfl
    | 7, _ => exact (Lit.string.inj (DataW.lit.inj (Option.some.inj h1))).symm.trans rfl
  rw [← fin]
theorem KwAt.keep {w w' : World} (h : KwAt w) (hk : Keeps w w') : KwAt w' := fun k hk' => hk _ _ _ (h k hk')

/-- A world that meets the condition: the settled one, the variable's cells laid. -/
noncomputable def laidWorld (os : Os) : World :=
  let w0 := World.holding Tryz.prog os ⟨#[], #[], []⟩
  { w0 with heap := w0.heap.modify 2 fun
      | .cells _ t frozen => .cells #[.string ⟨#[]⟩, .string ⟨#[102, 108, 97, 103]⟩, .string ⟨#[110, 117, 109]⟩, .string ⟨#[116, 101, 120, 116]⟩, .string ⟨#[112, 105, 99, 107]⟩, .string ⟨#[109, 97, 121, 98, 101]⟩, .string ⟨#[108, 105, 115, 116]⟩, .string ⟨#[114, 101, 99]⟩] t frozen
      | o => o }
theorem laidWorld_met (os : Os) (args : Array Value) : laidMetH Tryz.prog [("loop.example/g00848/impl.kindWords", Rows.laid_loop_example_g00848_impl_kindWords)] ((laidWorld os).forCall (fun _ _ => 0) ⟨#[], args, []⟩).memory := by
  rw [MakeChecks.laidMetH_plain _ _ _ (by kernel_rfl)]
  exact laidMet_of_run' 8 (by kernel_rfl) (by kernel_rfl)
end Go.Proofs.YtbpidhlpakobiaaGreatDoor
