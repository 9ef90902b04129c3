/- Walks: impl.ShapeText. -/
import Derived.Test.YtmdlciomhkielaaDoorGAppB
namespace Go.Proofs.YtmdlciomhkielaaDoor
open Go.RowKit

set_option maxRecDepth 100000 in
set_option maxHeartbeats 1000000 in
theorem implText_is (t : Sh) (r : List UInt8) (hr : textOf t = r) (v : Value) (w : World) (h : IsSh w t v) (hkw : KwAt w) :
    Calls Tryd.prog 64 #[v] w fun e w' => e = .returned (.string ⟨r.toArray⟩) ∧ Below w.heap.size w w' := by
  subst hr
  have HH := Lib.hid h
  obtain ⟨p1, n1, m1, p2, n2, m2, p3, n3, m3, rfl⟩ := h.agg
  have HB := Lib.hid (below_alloc w (.cells #[.int .i64 t.kd, .slice p1 n1 m1, .slice p2 n2 m2, .slice p3 n3 m3] 25))
  have HA0 := Lib.hid (Go.Deep.blk_alloc_new w (.cells #[.int .i64 t.kd, .slice p1 n1 m1, .slice p2 n2 m2, .slice p3 n3 m3] 25))
  have HKW := Lib.hid hkw
  cases hr : rightB t
  · have HR := Lib.hid hr
    have HP : Hid (textOf t = []) := by show _ = _; unfold textOf; rw [hr]; rfl
    clear h hr hkw
    go_enter Tryd.func64, Tryd.ntmps64
    go_wp2_with fail
    refine (implRight_is t _ HR.out _ _ (IsSh.keep (keeps_alloc _ _) _ _ HH.out)).mono ?_
    rintro e w1 ⟨rfl, hb1⟩
    have HB1 := Lib.hid (HB.out.trans (hb1.mono (by simp)))
    clear hb1
    go_wp2_with fail
    go_ret
    exact ⟨ret_list HP.out.symm, HB1.out⟩
  · have HR := Lib.hid hr
    have HP : Hid (textOf t = t.txt) := by show _ = _; unfold textOf; rw [hr]; rfl
    clear h hr hkw
    go_enter Tryd.func64, Tryd.ntmps64
    go_wp2_with fail
    refine (implRight_is t _ HR.out _ _ (IsSh.keep (keeps_alloc _ _) _ _ HH.out)).mono ?_
    rintro e w1 ⟨rfl, hb1⟩
    have A1 := Lib.hid (blk_below HA0.out hb1 (by simp))
    have HB1 := Lib.hid (HB.out.trans (hb1.mono (by simp)))
    clear hb1
    obtain ⟨a0, a1, a2, a3, _, _, _, _, az⟩ := blk4 A1.out
    go_wp2_with fail
    refine (ap_any 5 (Nat.le_refl _) t w _ _ _ [] HR.out HH.out HB1.out (OwnB.nil _ _) (by decide) HKW.out).mono ?_
    rintro e w2 ⟨p, n, m, rfl, ho2, hb2, _, _⟩
    have hs := ho2.str
    have HB2 := Lib.hid hb2
    clear ho2 hb2 a0 a1 a2 a3 az
    go_wp2_with fail
    go_ret
    exact ⟨ret_list (by rw [HP.out]), HB2.out⟩
end Go.Proofs.YtmdlciomhkielaaDoor
