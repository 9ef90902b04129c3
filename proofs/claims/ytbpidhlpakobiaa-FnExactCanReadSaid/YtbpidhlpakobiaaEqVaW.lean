/- Walks: laws.eqValS, laws.eqVal at two readings of one Val. -/
import Derived.Test.YtbpidhlpakobiaaToVa2W
import Derived.Test.YtbpidhlpakobiaaEqW
namespace Go.Proofs.Ytbpidhlpakobiaa
open Go.RowKit

/-- eqVal's contract at two readings of one Val. -/
def EqVAt (x : Va) : Prop := ∀ (v u : Value) (w : World), IsVa w x v → IsVa w x u →
  Calls Try.prog 12 #[v, u] w fun e w' => e = .returned (.bool true) ∧ Below w.heap.size w w'

set_option maxRecDepth 100000 in
set_option maxHeartbeats 1000000 in
theorem eqVas_same (v u : Value) (l : List Va) (ih : ∀ x ∈ l, EqVAt x) (w : World) (h : IsVas w v l) (g : IsVas w u l) :
    Calls Try.prog 27 #[v, u] w fun e w' => e = .returned (.bool true) ∧ Below w.heap.size w w' := by
  obtain ⟨a, cap, rfl, h3, h4, h6⟩ := h
  obtain ⟨a', cap', rfl, g3, g4, g6⟩ := g
  have H6 := Lib.hid h6
  have G6 := Lib.hid g6
  have IH := Lib.hid ih
  clear h6 g6 ih
  go_enter Try.func27, Try.ntmps27
  go_wp2_with fail
  go_loopw [5] (fun i wr => ∃ k : Nat, k ≤ l.length ∧ i = .int .i64 k ∧ Hid (Below w.heap.size w wr)) (fun i _ => l.length - (intOf i).toNat)
  case atStart => exact ⟨0, Nat.zero_le _, rfl, Below.refl _ _⟩
  case round =>
    obtain ⟨k, hk, rfl, HB⟩ := hrel
    by_cases hlt : k < l.length
    · obtain ⟨b, off, rfl, c0, c1, c2, c3, g0, g1, g2, g3, g4⟩ := IsVas.at H6.out hlt
      obtain ⟨b', off', rfl, d0, d1, d2, d3, e0, e1, e2, e3, e4⟩ := IsVas.at G6.out hlt
      have HK := Lib.hid (Keeps.of_below HB.out)
      have k0 := HK.out _ _ _ g0
      have k1 := HK.out _ _ _ g1
      have k2 := HK.out _ _ _ g2
      have k3 := HK.out _ _ _ g3
      have j0 := HK.out _ _ _ e0
      have j1 := HK.out _ _ _ e1
      have j2 := HK.out _ _ _ e2
      have j3 := HK.out _ _ _ e3
      have K4 := Lib.hid (IsVa.keep HK.out _ _ g4)
      have J4 := Lib.hid (IsVa.keep HK.out _ _ e4)
      clear g0 g1 g2 g3 g4 e0 e1 e2 e3 e4
      go_wp2_with fail
      go_still_tail 8, (by kernel_rfl)
      change wpList _ _ _ _ _ wr.drew
      go_wp2_with fail
      refine (IH.out _ (List.getElem_mem hlt) _ _ _ (IsVa.keep keeps_drew _ _ K4.out) (IsVa.keep keeps_drew _ _ J4.out)).mono ?_
      rintro e w1 ⟨rfl, hb1⟩
      have HB1 := Lib.hid (HB.out.drew.trans (hb1.mono HB.out.size))
      clear hb1 k0 k1 k2 k3 j0 j1 j2 j3
      go_wp2_with fail
      go_roundw
      case rel => exact ⟨k + 1, hlt, by go_num, HB1.out⟩
      case measure => simp [intOf]; omega
    · go_wp2_with fail
      go_ret
      exact ⟨rfl, HB.out⟩

set_option maxRecDepth 100000 in
set_option maxHeartbeats 1000000 in
theorem eqVa_same : ∀ x, EqVAt x := by
  refine Va.ind fun k n t it ih v u w h g => ?_
  obtain ⟨vp, rfl, _, _, _, h4⟩ := h.parts
  obtain ⟨up, rfl, _, _, _, g4⟩ := g.parts
  have IH := Lib.hid ih
  have H4 := Lib.hid h4
  have G4 := Lib.hid g4
  clear h g h4 g4 ih
  have HB0 := Lib.hid (fun o1 o2 : Obj => (below_alloc w o1).alloc (by simp) o2)
  go_enter Try.func12, Try.ntmps12
  go_wp2_with fail
  refine (eqVas_same _ _ it IH.out _ (H4.out.keep (Keeps.of_below (HB0.out _ _))) (G4.out.keep (Keeps.of_below (HB0.out _ _)))).mono ?_
  rintro e w1 ⟨rfl, hb1⟩
  have HB1 := Lib.hid ((HB0.out _ _).trans (hb1.mono (by simp; omega)))
  clear hb1
  go_wp2_with fail
  go_ret
  exact ⟨rfl, HB1.out⟩
end Go.Proofs.Ytbpidhlpakobiaa
