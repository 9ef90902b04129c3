/- Walks: impl.ValText, spec.ValText. -/
import Derived.Test.YtflpfphfoibggaaDoorAvM
import Derived.Test.YtflpfphfoibggaaDoorVtW
import Derived.Test.YtflpfphfoibggaaDoorSpFit2W
namespace Go.Proofs.YtflpfphfoibggaaDoor
open Go.RowKit

/-- What ValText tells. -/
def vtextOf (t : Sh) (x : Va) : List UInt8 := if fitsB t x = true then x.txt else []
theorem vtext_no {t : Sh} {x : Va} (h : fitsB t x = false) : vtextOf t x = [] := by unfold vtextOf; rw [h]; rfl
theorem vtext_yes {t : Sh} {x : Va} (h : fitsB t x = true) : vtextOf t x = x.txt := by unfold vtextOf; rw [h]; rfl
theorem fits_parts {t : Sh} {x : Va} (h : fitsB t x = true) : partOk 5 t = true ∧ fitB t x = true := by
  unfold fitsB at h
  rw [Bool.and_eq_true] at h
  exact h

set_option maxRecDepth 100000 in
set_option maxHeartbeats 1000000 in
theorem specVText_is (t : Sh) (x : Va) (r : List UInt8) (hr : vtextOf t x = r) (v u : Value) (w : World) (h : IsSh w t v) (g : IsVa w x u) :
    Calls Tryd.prog 33 #[v, u] w fun e w' => e = .returned (.string ⟨r.toArray⟩) ∧ Below w.heap.size w w' := by
  subst hr
  have HH := Lib.hid h
  have GG := Lib.hid g
  obtain ⟨p1, n1, m1, p2, n2, m2, p3, n3, m3, rfl⟩ := h.agg
  obtain ⟨p4, m4, rfl⟩ := g.agg
  have HB := Lib.hid ((below_alloc w (.cells #[.int .i64 t.kd, .slice p1 n1 m1, .slice p2 n2 m2, .slice p3 n3 m3] 26)).alloc (by simp) (.cells #[.int .i64 x.kd, .int .i64 x.nn, .string x.tx, .slice p4 x.it.length m4] 55))
  obtain ⟨s0, s1⟩ := two_new w (.cells #[.int .i64 t.kd, .slice p1 n1 m1, .slice p2 n2 m2, .slice p3 n3 m3] 26) (.cells #[.int .i64 x.kd, .int .i64 x.nn, .string x.tx, .slice p4 x.it.length m4] 55)
  have A0 := Lib.hid s0
  have C0 := Lib.hid s1
  cases hr : fitsB t x
  · have HR := Lib.hid hr
    have HP := Lib.hid (vtext_no hr)
    clear h g hr s0 s1
    go_enter Tryd.func33, Tryd.ntmps33
    go_wp2_with fail
    refine (specFits_is t x _ HR.out _ _ _ (IsSh.keep (Keeps.of_below HB.out) _ _ HH.out) (IsVa.keep (Keeps.of_below HB.out) _ _ GG.out)).mono ?_
    rintro e w1 ⟨rfl, hb1⟩
    have HB1 := Lib.hid (HB.out.trans (hb1.mono HB.out.size))
    clear hb1
    go_wp2_with fail
    go_ret
    exact ⟨ret_list HP.out.symm, HB1.out⟩
  · have HR := Lib.hid hr
    have HP := Lib.hid (vtext_yes hr)
    clear h g hr s0 s1
    go_enter Tryd.func33, Tryd.ntmps33
    go_wp2_with fail
    refine (specFits_is t x _ HR.out _ _ _ (IsSh.keep (Keeps.of_below HB.out) _ _ HH.out) (IsVa.keep (Keeps.of_below HB.out) _ _ GG.out)).mono ?_
    rintro e w1 ⟨rfl, hb1⟩
    have A1 := Lib.hid (blk_below A0.out hb1 (blk4 A0.out).2.2.2.2.2.2.2.2)
    have C1 := Lib.hid (blk_below C0.out hb1 (blk4 C0.out).2.2.2.2.2.2.2.2)
    have HB1 := Lib.hid (HB.out.trans (hb1.mono HB.out.size))
    clear hb1
    obtain ⟨a0, a1, a2, a3, _, _, _, _, az⟩ := blk4 A1.out
    obtain ⟨d0, d1, d2, d3, _, _, _, _, dz⟩ := blk4 C1.out
    go_wp2_with fail
    refine (vt_any 5 (Nat.le_refl _) x _ _ ⟨t, fits_parts HR.out⟩ (IsVa.keep (Keeps.of_below HB1.out) _ _ GG.out)).mono ?_
    rintro e w2 ⟨rfl, hb2⟩
    have HB2 := Lib.hid (HB1.out.trans (hb2.mono HB1.out.size))
    clear hb2 a0 a1 a2 a3 az d0 d1 d2 d3 dz
    go_wp2_with fail
    go_ret
    exact ⟨ret_list (by rw [HP.out]), HB2.out⟩

set_option maxRecDepth 100000 in
set_option maxHeartbeats 1000000 in
theorem implVText_is (t : Sh) (x : Va) (r : List UInt8) (hr : vtextOf t x = r) (v u : Value) (w : World) (h : IsSh w t v) (g : IsVa w x u) (htab : TabAt w.heap.size w) :
    Calls Tryd.prog 35 #[v, u] w fun e w' => e = .returned (.string ⟨r.toArray⟩) ∧ Below w.heap.size w w' := by
  subst hr
  have HH := Lib.hid h
  have GG := Lib.hid g
  have HTAB := Lib.hid htab
  obtain ⟨p1, n1, m1, p2, n2, m2, p3, n3, m3, rfl⟩ := h.agg
  obtain ⟨p4, m4, rfl⟩ := g.agg
  have HB := Lib.hid ((below_alloc w (.cells #[.int .i64 t.kd, .slice p1 n1 m1, .slice p2 n2 m2, .slice p3 n3 m3] 26)).alloc (by simp) (.cells #[.int .i64 x.kd, .int .i64 x.nn, .string x.tx, .slice p4 x.it.length m4] 55))
  obtain ⟨s0, s1⟩ := two_new w (.cells #[.int .i64 t.kd, .slice p1 n1 m1, .slice p2 n2 m2, .slice p3 n3 m3] 26) (.cells #[.int .i64 x.kd, .int .i64 x.nn, .string x.tx, .slice p4 x.it.length m4] 55)
  have A0 := Lib.hid s0
  have C0 := Lib.hid s1
  cases hr : fitsB t x
  · have HR := Lib.hid hr
    have HP := Lib.hid (vtext_no hr)
    clear h g hr s0 s1 htab
    go_enter Tryd.func35, Tryd.ntmps35
    go_wp2_with fail
    refine (implFits_is t x _ HR.out _ _ _ (IsSh.keep (Keeps.of_below HB.out) _ _ HH.out) (IsVa.keep (Keeps.of_below HB.out) _ _ GG.out)).mono ?_
    rintro e w1 ⟨rfl, hb1⟩
    have HB1 := Lib.hid (HB.out.trans (hb1.mono HB.out.size))
    clear hb1
    go_wp2_with fail
    go_ret
    exact ⟨ret_list HP.out.symm, HB1.out⟩
  · have HR := Lib.hid hr
    have HP := Lib.hid (vtext_yes hr)
    clear h g hr s0 s1 htab
    go_enter Tryd.func35, Tryd.ntmps35
    go_wp2_with fail
    refine (implFits_is t x _ HR.out _ _ _ (IsSh.keep (Keeps.of_below HB.out) _ _ HH.out) (IsVa.keep (Keeps.of_below HB.out) _ _ GG.out)).mono ?_
    rintro e w1 ⟨rfl, hb1⟩
    have A1 := Lib.hid (blk_below A0.out hb1 (blk4 A0.out).2.2.2.2.2.2.2.2)
    have C1 := Lib.hid (blk_below C0.out hb1 (blk4 C0.out).2.2.2.2.2.2.2.2)
    have HB1 := Lib.hid (HB.out.trans (hb1.mono HB.out.size))
    clear hb1
    obtain ⟨a0, a1, a2, a3, _, _, _, _, az⟩ := blk4 A1.out
    obtain ⟨d0, d1, d2, d3, _, _, _, _, dz⟩ := blk4 C1.out
    go_wp2_with fail
    refine (av_any 5 (Nat.le_refl _) t x w _ _ _ _ [] (fits_parts HR.out).1 (fits_parts HR.out).2 HH.out GG.out HB1.out (OwnB.nil _ _) (by decide) HTAB.out).mono ?_
    rintro e w2 ⟨p, n, m, rfl, ho2, hb2, _, _⟩
    have hs := ho2.str
    have HB2 := Lib.hid hb2
    clear ho2 hb2 a0 a1 a2 a3 az d0 d1 d2 d3 dz
    go_wp2_with fail
    go_ret
    exact ⟨ret_list (by rw [HP.out]), HB2.out⟩

end Go.Proofs.YtflpfphfoibggaaDoor
