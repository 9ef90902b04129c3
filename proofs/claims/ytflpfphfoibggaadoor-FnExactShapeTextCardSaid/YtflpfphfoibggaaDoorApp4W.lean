/- Walks: impl.appendShape at any right shape; impl.ShapeText. -/
import Derived.Test.YtflpfphfoibggaaDoorApp3W
namespace Go.Proofs.YtflpfphfoibggaaDoor
open Go.RowKit

/-- impl.appendShape. -/
theorem ap_any (d : Nat) (hd : d ≤ 5) : ApAt KwAt d := by
  induction d with
  | zero =>
    intro t w0 w v u l hp
    simp [partOk] at hp
  | succ d ih =>
    intro t w0 w v u l hp h hb ho hl hkw
    have ih' := ih (by omega)
    cases t with | mk k sy na su =>
    obtain ⟨p1, m1, p2, m2, p3, m3, rfl, _, h1, h2, h3⟩ := h.open
    simp only [partOk, Bool.and_eq_true] at hp
    simp only [capT] at hl
    rcases sound_cases hp.1 with ⟨hk, rfl, rfl, hn⟩ | ⟨rfl, h0, h6, hw, rfl, hn⟩ | ⟨hk, rfl, rfl, hn⟩ | ⟨rfl, rfl, h6, hw, hn⟩
    · rw [txt_bare (by omega)]
      rcases hk with rfl | rfl | rfl
      · exact app_flag w0 w v l _ _ _ _ _ _ _ _ _ hb ho (by omega) hkw
      · exact app_num w0 w v l _ _ _ _ _ _ _ _ _ hb ho (by omega) hkw
      · exact app_text w0 w v l _ _ _ _ _ _ _ _ _ hb ho (by omega) hkw
    · obtain rfl := List.eq_nil_of_length_eq_zero hn
      have e : (Sh.mk 4 sy [] []).txt = kwB 4 ++ 40 :: (joinC (sy.map (·.data.toList)) ++ [41]) := by simp [Sh.txt, Sh.items]
      rw [e]
      exact app_pick w0 w v l _ _ _ _ _ _ _ _ _ hb ho (by omega) sy h1 (words_size hw) h6 hkw
    · obtain ⟨x, rfl⟩ := List.length_eq_one_iff.1 hn
      have hx : partOk d x = true := by simpa using hp.2
      rcases hk with rfl | rfl
      · have e : (Sh.mk 5 [] [] [x]).txt = kwB 5 ++ 40 :: (x.txt ++ [41]) := by simp [Sh.txt, Sh.items, joinC]
        rw [e]
        exact app_maybe w0 w v l _ _ _ _ _ _ _ _ _ hb ho (by omega) d ih' x [x] rfl rfl h3 hx (by omega) hkw
      · have e : (Sh.mk 6 [] [] [x]).txt = kwB 6 ++ 40 :: (x.txt ++ [41]) := by simp [Sh.txt, Sh.items, joinC]
        rw [e]
        exact app_lists w0 w v l _ _ _ _ _ _ _ _ _ hb ho (by omega) d ih' x [x] rfl rfl h3 hx (by omega) hkw
    · have e : (Sh.mk 7 [] na su).txt = kwB 7 ++ 40 :: (joinC (Sh.items 7 na su) ++ [41]) := by simp [Sh.txt]
      rw [e]
      exact app_rec w0 w v l _ _ _ _ _ _ _ na su hb ho (by omega) d (by omega) ih' h2 h3 hn h6 (words_size hw) hp.2 (by omega) hkw

/-- What ShapeText tells. -/
def textOf (t : Sh) : List UInt8 := if rightB t = true then t.txt else []

set_option maxRecDepth 100000 in
set_option maxHeartbeats 1000000 in
theorem implText_is (t : Sh) (r : List UInt8) (hr : textOf t = r) (v : Value) (w : World) (h : IsSh w t v) (hkw : KwAt w) :
    Calls Tryd.prog 8 #[v] w fun e w' => e = .returned (.string ⟨r.toArray⟩) ∧ Below w.heap.size w w' := by
  subst hr
  have HH := Lib.hid h
  obtain ⟨p1, n1, m1, p2, n2, m2, p3, n3, m3, rfl⟩ := h.agg
  have HB := Lib.hid (below_alloc w (.cells #[.int .i64 t.kd, .slice p1 n1 m1, .slice p2 n2 m2, .slice p3 n3 m3] 26))
  have HA0 := Lib.hid (Go.Deep.blk_alloc_new w (.cells #[.int .i64 t.kd, .slice p1 n1 m1, .slice p2 n2 m2, .slice p3 n3 m3] 26))
  have HKW := Lib.hid hkw
  cases hr : rightB t
  · have HR := Lib.hid hr
    have HP : Hid (textOf t = []) := by show _ = _; unfold textOf; rw [hr]; rfl
    clear h hr hkw
    go_enter Tryd.func8, Tryd.ntmps8
    go_wp2_with fail
    refine (implRight_is t _ HR.out _ _ (IsSh.keep (keeps_alloc _ _) _ _ HH.out)).mono ?_
    rintro e w1 ⟨rfl, hb1⟩
    have HB1 := Lib.hid (HB.out.trans (hb1.mono (by simp)))
    clear hb1
    go_wp2_with fail
    go_ret
    exact ⟨ret_list HP.out.symm, HB1.out⟩
  · have HR := Lib.hid hr
    have HP : Hid (textOf t = t.txt) := by show _ = _; unfold textOf; rw [hr]; rfl
    clear h hr hkw
    go_enter Tryd.func8, Tryd.ntmps8
    go_wp2_with fail
    refine (implRight_is t _ HR.out _ _ (IsSh.keep (keeps_alloc _ _) _ _ HH.out)).mono ?_
    rintro e w1 ⟨rfl, hb1⟩
    have A1 := Lib.hid (blk_below HA0.out hb1 (by simp))
    have HB1 := Lib.hid (HB.out.trans (hb1.mono (by simp)))
    clear hb1
    obtain ⟨a0, a1, a2, a3, _, _, _, _, az⟩ := blk4 A1.out
    go_wp2_with fail
    refine (ap_any 5 (Nat.le_refl _) t w _ _ _ [] HR.out HH.out HB1.out (OwnB.nil _ _) (by decide) HKW.out).mono ?_
    rintro e w2 ⟨p, n, m, rfl, ho2, hb2, _, _⟩
    have hs := ho2.str
    have HB2 := Lib.hid hb2
    clear ho2 hb2 a0 a1 a2 a3 az
    go_wp2_with fail
    go_ret
    exact ⟨ret_list (by rw [HP.out]), HB2.out⟩
end Go.Proofs.YtflpfphfoibggaaDoor
