/- For every input laws.FnExactDeepOf returns true: impl.DeepOf answers as its model does, and writes nothing that was there. No condition. -/
import Derived.Test.YtphiljhdonnpmaaDeepW
import Derived.Test.YtphiljhdonnpmaaToW
import Derived.Test.YtphiljhdonnpmaaShO
import Derived.Test.YtphiljhdonnpmaaFrame
import Derived.Deep.RegionWith
namespace Go.Proofs.Ytphiljhdonnpmaa.deepL
open Go.ChangeShapes Go.WideShapes Go.ChangeAt Go.RowKit

set_option maxRecDepth 100000 in
set_option maxHeartbeats 2000000 in
theorem walk (t : Sh) (v : Value) (w : World) (h : IsSh w t v) :
    Calls Try.prog 4 #[v] w fun e w' => e = .returned (.bool true) ∧ Below w.heap.size w w' := by
  have HH := Lib.hid h
  obtain ⟨p1, n1, m1, p2, n2, m2, p3, n3, m3, rfl⟩ := h.agg
  have HB := Lib.hid (below_alloc w)
  have HA0 := Lib.hid (Go.Deep.blk_alloc_new w (.cells #[.int .i64 t.kd, .slice p1 n1 m1, .slice p2 n2 m2, .slice p3 n3 m3] 26))
  clear h
  by_cases hsz : t.sz ≤ 1048576
  · have E1 := Lib.hid (leftOf_le hsz)
    obtain ⟨q, hq⟩ : ∃ q, q = 1048576 - t.sz := ⟨_, rfl⟩
    rw [← hq] at E1
    have z1 : 0 ≤ (q : Int) := by omega
    have HSZ := Lib.hid hsz
    obtain ⟨r, hr⟩ : ∃ r, deepOf t = r := ⟨_, rfl⟩
    have HR := Lib.hid hr
    clear hq hsz hr
    go_enter Try.func4, Try.ntmps4
    go_wp2_with fail
    refine (szSh_any t _ 1048576 _ (IsSh.keep (keeps_alloc _ _) _ _ HH.out) (Nat.le_refl _)).mono ?_
    rintro e w1 ⟨rfl, hb1⟩
    rw [E1.out]
    have A1 := Lib.hid (blk_below HA0.out hb1 (by simp))
    have B1 := Lib.hid ((HB.out _).trans (hb1.mono (by simp)))
    clear hb1
    obtain ⟨a0, a1, a2, a3, _, _, _, _, az⟩ := blk4 A1.out
    go_wp2_with fail
    refine (toSh_any t _ _ (IsSh.keep (Keeps.of_below B1.out) _ _ HH.out) HSZ.out).mono ?_
    rintro e w2 ⟨c0, c1, c2, c3, F, rfl, ho2, _, hb2⟩
    have S2 := Lib.hid (OwnSh.is _ _ _ ho2)
    have A2 := Lib.hid (blk_below A1.out hb2 az)
    have B2 := Lib.hid (B1.out.trans (hb2.mono B1.out.size))
    clear hb2 a0 a1 a2 a3 az ho2
    go_wp2_with fail
    refine (specDeepOf_is t _ HR.out HSZ.out _ _ S2.out).mono ?_
    rintro e w3 ⟨rfl, hb3⟩
    have A3 := Lib.hid (blk_below A2.out hb3 (blk4 A2.out).2.2.2.2.2.2.2.2)
    have B3 := Lib.hid (B2.out.trans (hb3.mono B2.out.size))
    clear hb3
    obtain ⟨a0, a1, a2, a3, _, _, _, _, az⟩ := blk4 A3.out
    go_wp2_with fail
    refine (toSh_any t _ _ (IsSh.keep (Keeps.of_below B3.out) _ _ HH.out) HSZ.out).mono ?_
    rintro e w4 ⟨c0, c1, c2, c3, F, rfl, ho4, _, hb4⟩
    have hs4 := OwnSh.is _ _ _ ho4
    obtain ⟨q1, i1, j1, q2, i2, j2, q3, i3, j3, rfl, rfl, rfl, rfl⟩ := hs4.cells
    have S4 := Lib.hid hs4
    have A4 := Lib.hid (blk_below A3.out hb4 az)
    have B4 := Lib.hid (B3.out.trans (hb4.mono B3.out.size))
    clear hb4 a0 a1 a2 a3 az ho4 hs4
    go_wp2_with fail
    have X5 := Lib.hid (Go.Deep.blk_alloc_new w4 (.cells #[.int .i64 t.kd, .slice q1 i1 j1, .slice q2 i2 j2, .slice q3 i3 j3] 31))
    have B5 := Lib.hid (B4.out.alloc B4.out.size (.cells #[.int .i64 t.kd, .slice q1 i1 j1, .slice q2 i2 j2, .slice q3 i3 j3] 31))
    have S5 := Lib.hid (IsSh.keep (keeps_alloc w4 (.cells #[.int .i64 t.kd, .slice q1 i1 j1, .slice q2 i2 j2, .slice q3 i3 j3] 31)) _ _ S4.out)
    have A5 := Lib.hid (blk_below A4.out (below_alloc w4 (.cells #[.int .i64 t.kd, .slice q1 i1 j1, .slice q2 i2 j2, .slice q3 i3 j3] 31)) (blk4 A4.out).2.2.2.2.2.2.2.2)
    refine (implDeep_is t _ HR.out HSZ.out _ _ S5.out).mono ?_
    rintro e w6 ⟨rfl, hb6⟩
    have A6 := Lib.hid (blk_below A5.out hb6 (blk4 A5.out).2.2.2.2.2.2.2.2)
    have X6 := Lib.hid (blk_below X5.out hb6 (blk4 X5.out).2.2.2.2.2.2.2.2)
    have S6 := Lib.hid (IsSh.keep (Keeps.of_below hb6) _ _ S5.out)
    have B6 := Lib.hid (B5.out.trans (hb6.mono B5.out.size))
    clear hb6
    obtain ⟨a0, a1, a2, a3, _, _, _, _, az⟩ := blk4 A6.out
    obtain ⟨x0, x1, x2, x3, _, _, _, _, xz⟩ := blk4 X6.out
    go_wp2_with fail
    go_region_with (first
      | (go_at_call 9; refine (toSh_any t _ _ (IsSh.keep keeps_drew _ _ (IsSh.keep (Keeps.of_below B6.out) _ _ HH.out)) HSZ.out).mono ?_; rintro e w7 ⟨c0, c1, c2, c3, F, rfl, ho7, _, hb7⟩; have S7 := Lib.hid (OwnSh.is _ _ _ ho7); have T7 := Lib.hid (IsSh.keep (Keeps.of_below hb7) _ _ (IsSh.keep keeps_drew _ _ S6.out)); have B7 := Lib.hid (B6.out.drew.trans (hb7.mono B6.out.size)); obtain ⟨y0, y1, y2, y3, _, _, _, _, _⟩ := blk4 (blk_below (w := w6.drew) X6.out hb7 xz); clear hb7 ho7)
      | (go_at_call 11; refine (eqSh_same t _ _ _ T7.out S7.out).mono ?_; rintro e w8 ⟨rfl, hb8⟩; have B8 := Lib.hid (B7.out.trans (hb8.mono B7.out.size)); clear hb8))
    all_goals
      go_wp2_with fail
      go_ret
      exact ⟨rfl, B8.out⟩
  · have E1 := Lib.hid (leftOf_lt (left := 1048576) (n := t.sz) (by omega))
    clear hsz
    go_enter Try.func4, Try.ntmps4
    go_wp2_with fail
    refine (szSh_any t _ 1048576 _ (IsSh.keep (keeps_alloc _ _) _ _ HH.out) (Nat.le_refl _)).mono ?_
    rintro e w1 ⟨rfl, hb1⟩
    rw [E1.out]
    have B1 := Lib.hid ((HB.out _).trans (hb1.mono (by simp)))
    clear hb1
    go_wp2_with fail
    go_ret
    exact ⟨rfl, B1.out⟩

set_option maxRecDepth 100000 in
theorem lifted (os : Os) (started : os.Started) (H : Type) (enc : TypeId × Value → H) :
    ReturnsInHanded {} Try.checked os 4 .any (Rows.fnExactDeepOfSpec.pre6 enc Try.prog Try.f4 Rows.fnExactDeepOfRow.domain false) (Rows.fnExactDeepOfSpec.post enc Try.prog Try.f4 false true false false) := by
  refine returnsInHanded_of_change (C := Try.checked) own started (by kernel_rfl) Try.func4
    (ChangeSpec.witness6 (enc := enc) (C := Try.checked) false ⟨#[], #[.agg #[.int .i64 0, .slice none 0 0, .slice none 0 0, .slice none 0 0]], []⟩ 8 (by kernel_rfl) (by kernel_rfl) (by kernel_rfl) (by kernel_rfl)) ?_
  intro W base args ds gs before hval0 hW hcnd _
  have hval : ∀ (j : Nat) t v, Try.f4.params[j]? = some t → args[j]? = some v → Value.okWide Try.prog W .any base t v := hval0
  have hW' := hW
  obtain ⟨p, q, hA0, hV, rfl, hfz, hnd⟩ := hW
  have hA : DataW.TrodAll enc Try.prog W 0 (fun _ => true) true Try.f4.params.toList args.toList ds p := hA0
  rw [Try.params4] at hA hval
  obtain ⟨v0, vs0, d0, ds0, p0, q0, hargs, rfl, rfl, h0, r0⟩ := trodAll_cons hA
  obtain ⟨rfl, rfl, rfl⟩ := trodAll_nil r0
  obtain rfl : args = #[v0] := by cases args; simp_all
  obtain ⟨rfl, rfl⟩ := trodVars_none hV
  obtain ⟨t0, w0⟩ := open_sh (hval 0 26 v0 rfl rfl) h0
  have k0 := h0
  have lt0 : ∀ x ∈ p0, x.block < W.heap.size := by obtain ⟨m, hm⟩ := k0; exact DataW.trod_lt m _ _ _ hm
  clear hA0 hval0
  refine (walk t0 v0 W w0).mono fun e W' ⟨he, bel⟩ => ?_
  subst he
  exact ⟨_, rfl, _, _, _, [], _, [], hW', trodAll_mk1 (shut_bool Try.underlying4 _), (trodAll_cons_mk (Below.trod laidOut (by kernel_rfl) (of_decide_eq_true (by kernel_rfl)) k0 bel lt0) trodAll_mk0), rfl, bel.frame _, fun h => by cases h⟩

theorem proved : Rows.FnExactDeepOfSaid :=
  OpenClaim.holds_of_wide 4 Try.f4 rfl rfl rfl rfl rfl rfl rfl ⟨rfl, rfl, rfl, rfl, rfl⟩ rfl rfl rfl rfl rfl (by kernel_rfl) Try.func4 (by kernel_rfl)
    (of_decide_eq_true (by kernel_rfl)) (by unfold Func.isWrapper; first | (rw [if_pos (by decide +kernel)]; kernel_rfl) | (rw [if_neg (by decide +kernel)]; exact ⟨rfl, rfl⟩))
    (fun os started H enc _ => lifted os started H enc)
#print axioms proved
end Go.Proofs.Ytphiljhdonnpmaa.deepL
