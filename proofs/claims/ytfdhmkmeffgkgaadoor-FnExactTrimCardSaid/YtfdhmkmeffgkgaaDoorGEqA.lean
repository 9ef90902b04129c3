/- Walks: laws.eqStringS, laws.eqShapeS, laws.eqShape at two readings of one shape. · Walks: laws.eqValS, laws.eqVal at two readings of one Val. -/
import Derived.Test.YtfdhmkmeffgkgaaDoorGSzA
import Derived.Test.YtfdhmkmeffgkgaaDoorGOwnA
import Derived.RegionTactic
import Derived.BigQuiet
import Derived.Deep.QuietTactic
import Derived.Deep.DeepCutAuto
import Derived.StillTailTactics
import Derived.Test.YtfdhmkmeffgkgaaDoorGToVa
namespace Go.Proofs.YtfdhmkmeffgkgaaDoor
open Go.RowKit

set_option maxRecDepth 100000 in
set_option maxHeartbeats 400000 in
theorem eqStrs_same (v u : Value) (l : List ByteArray) (w : World) (h : IsStrs w v l) (g : IsStrs w u l) :
    Calls Tryd.prog 30 #[v, u] w fun e w' => e = .returned (.bool true) ∧ Below w.heap.size w w' := by
  obtain ⟨h1, h2, a, cap, rfl, h3, h4, h6⟩ := h
  obtain ⟨_, _, a', cap', rfl, g3, g4, g6⟩ := g
  have H6 := Lib.hid h6
  have G6 := Lib.hid g6
  clear h6 g6 h2
  go_enter Tryd.func30, Tryd.ntmps30
  go_wp2_with fail
  go_loopw [5] (fun i wr => ∃ k : Nat, k ≤ l.length ∧ i = .int .i64 k ∧ Hid (Below w.heap.size w wr)) (fun i _ => l.length - (intOf i).toNat)
  case atStart => exact ⟨0, Nat.zero_le _, rfl, Below.refl _ _⟩
  case round =>
    obtain ⟨k, hk, rfl, HB⟩ := hrel
    by_cases hlt : k < l.length
    · obtain ⟨b, off, rfl, hc⟩ := IsStrs.at H6.out hlt
      obtain ⟨b', off', rfl, hc'⟩ := IsStrs.at G6.out hlt
      have g0 := Keeps.of_below HB.out _ _ _ hc
      have g1 := Keeps.of_below HB.out _ _ _ hc'
      clear hc hc'
      go_wp2_with fail
      go_quiet (fail)
      go_wp2_with fail
      go_roundw
      case rel => exact ⟨k + 1, hlt, by go_num, below_drewN HB.out _⟩
      case measure => simp [intOf]; omega
    · go_wp2_with fail
      go_ret
      exact ⟨rfl, HB.out⟩

/-- eqShape's contract at two readings of one shape. -/
def EqAt (x : Sh) : Prop := ∀ (v u : Value) (w : World), IsSh w x v → IsSh w x u →
  Calls Tryd.prog 31 #[v, u] w fun e w' => e = .returned (.bool true) ∧ Below w.heap.size w w'

set_option maxRecDepth 100000 in
set_option maxHeartbeats 1000000 in
theorem eqShs_same (v u : Value) (l : List Sh) (ih : ∀ x ∈ l, EqAt x) (w : World) (h : IsShs w v l) (g : IsShs w u l) :
    Calls Tryd.prog 59 #[v, u] w fun e w' => e = .returned (.bool true) ∧ Below w.heap.size w w' := by
  obtain ⟨a, cap, rfl, h3, h4, h6⟩ := h
  obtain ⟨a', cap', rfl, g3, g4, g6⟩ := g
  have H6 := Lib.hid h6
  have G6 := Lib.hid g6
  have IH := Lib.hid ih
  clear h6 g6 ih
  go_enter Tryd.func59, Tryd.ntmps59
  go_wp2_with fail
  go_loopw [5] (fun i wr => ∃ k : Nat, k ≤ l.length ∧ i = .int .i64 k ∧ Hid (Below w.heap.size w wr)) (fun i _ => l.length - (intOf i).toNat)
  case atStart => exact ⟨0, Nat.zero_le _, rfl, Below.refl _ _⟩
  case round =>
    obtain ⟨k, hk, rfl, HB⟩ := hrel
    by_cases hlt : k < l.length
    · obtain ⟨b, off, rfl, c0, c1, c2, c3, g0, g1, g2, g3, g4⟩ := IsShs.at H6.out hlt
      obtain ⟨b', off', rfl, d0, d1, d2, d3, e0, e1, e2, e3, e4⟩ := IsShs.at G6.out hlt
      have HK := Lib.hid (Keeps.of_below HB.out)
      have k0 := HK.out _ _ _ g0
      have k1 := HK.out _ _ _ g1
      have k2 := HK.out _ _ _ g2
      have k3 := HK.out _ _ _ g3
      have j0 := HK.out _ _ _ e0
      have j1 := HK.out _ _ _ e1
      have j2 := HK.out _ _ _ e2
      have j3 := HK.out _ _ _ e3
      have K4 := Lib.hid (IsSh.keep HK.out _ _ g4)
      have J4 := Lib.hid (IsSh.keep HK.out _ _ e4)
      clear g0 g1 g2 g3 g4 e0 e1 e2 e3 e4
      go_wp2_with fail
      go_still_tail 8, (by kernel_rfl)
      change wpList _ _ _ _ _ wr.drew
      go_wp2_with fail
      refine (IH.out _ (List.getElem_mem hlt) _ _ _ (IsSh.keep keeps_drew _ _ K4.out) (IsSh.keep keeps_drew _ _ J4.out)).mono ?_
      rintro e w1 ⟨rfl, hb1⟩
      have HB1 := Lib.hid (HB.out.drew.trans (hb1.mono HB.out.size))
      clear hb1 k0 k1 k2 k3 j0 j1 j2 j3
      go_wp2_with fail
      go_roundw
      case rel => exact ⟨k + 1, hlt, by go_num, HB1.out⟩
      case measure => simp [intOf]; omega
    · go_wp2_with fail
      go_ret
      exact ⟨rfl, HB.out⟩

set_option maxRecDepth 100000 in
set_option maxHeartbeats 1000000 in
theorem eqSh_same : ∀ x, EqAt x := by
  refine Sh.ind fun k sy na su ih v u w h g => ?_
  obtain ⟨vs, vn, vp, rfl, _, h2, h3, h4⟩ := h.parts
  obtain ⟨us, un, up, rfl, _, g2, g3, g4⟩ := g.parts
  have IH := Lib.hid ih
  have H2 := Lib.hid h2
  have H3 := Lib.hid h3
  have H4 := Lib.hid h4
  have G2 := Lib.hid g2
  have G3 := Lib.hid g3
  have G4 := Lib.hid g4
  clear h g h2 h3 h4 g2 g3 g4 ih
  have HB0 := Lib.hid (fun o1 o2 : Obj => (below_alloc w o1).alloc (by simp) o2)
  go_enter Tryd.func31, Tryd.ntmps31
  go_wp2_with fail
  refine (eqStrs_same _ _ sy _ (H2.out.keep (Keeps.of_below (HB0.out _ _))) (G2.out.keep (Keeps.of_below (HB0.out _ _)))).mono ?_
  rintro e w1 ⟨rfl, hb1⟩
  have hq : ((w.alloc (.cells #[.int .i64 k, vs, vn, vp] 31)).alloc (.cells #[.int .i64 k, us, un, up] 31)).heap.size = w.heap.size + 1 + 1 := by simp
  obtain ⟨n0, n1⟩ := two_new w (.cells #[.int .i64 k, vs, vn, vp] 31) (.cells #[.int .i64 k, us, un, up] 31)
  have A1 := Lib.hid (blk_below n0 hb1 (by omega))
  have B1 := Lib.hid (blk_below n1 hb1 (by omega))
  have HB1 := Lib.hid ((HB0.out _ _).trans (hb1.mono (by omega)))
  obtain ⟨a0, a1, a2, a3, _, _, _, _, az⟩ := blk4 A1.out
  obtain ⟨d0, d1, d2, d3, _, _, _, _, dz⟩ := blk4 B1.out
  clear n0 n1 hb1 hq
  go_wp2_with fail
  refine (eqStrs_same _ _ na _ (H3.out.keep (Keeps.of_below HB1.out)) (G3.out.keep (Keeps.of_below HB1.out))).mono ?_
  rintro e w2 ⟨rfl, hb2⟩
  have A2 := Lib.hid (blk_below A1.out hb2 az)
  have B2 := Lib.hid (blk_below B1.out hb2 dz)
  have HB2 := Lib.hid (HB1.out.trans (hb2.mono HB1.out.size))
  clear a0 a1 a2 a3 d0 d1 d2 d3 hb2 az dz
  obtain ⟨a0, a1, a2, a3, _, _, _, _, az⟩ := blk4 A2.out
  obtain ⟨d0, d1, d2, d3, _, _, _, _, dz⟩ := blk4 B2.out
  go_wp2_with fail
  refine (eqShs_same _ _ su IH.out _ (H4.out.keep (Keeps.of_below HB2.out)) (G4.out.keep (Keeps.of_below HB2.out))).mono ?_
  rintro e w3 ⟨rfl, hb3⟩
  have HB3 := Lib.hid (HB2.out.trans (hb3.mono HB2.out.size))
  clear hb3 a0 a1 a2 a3 d0 d1 d2 d3 az dz
  go_wp2_with fail
  go_ret
  exact ⟨rfl, HB3.out⟩
end Go.Proofs.YtfdhmkmeffgkgaaDoor
namespace Go.Proofs.YtfdhmkmeffgkgaaDoor
open Go.RowKit

end Go.Proofs.YtfdhmkmeffgkgaaDoor
