/- For every input laws.FnExactShapeText returns true: impl.ShapeText answers as its model does, and writes nothing that was there. No condition; the listed variable impl.kindWords is tied to the program's text. -/
import Derived.Test.YtflpfphfoibggaaDoorSpTxtW
import Derived.Test.YtflpfphfoibggaaDoorKwDoor
import Derived.Test.YtflpfphfoibggaaDoorToW
import Derived.Test.YtflpfphfoibggaaDoorShO
import Derived.Test.YtflpfphfoibggaaDoorFrame
import Derived.Deep.RegionWith
namespace Go.Proofs.YtflpfphfoibggaaDoor.textShL
open Go.ChangeShapes Go.WideShapes Go.ChangeAt Go.RowKit

set_option maxRecDepth 100000 in
set_option maxHeartbeats 2000000 in
theorem walk (t : Sh) (v : Value) (w : World) (h : IsSh w t v) (hkw : KwAt w) :
    Calls Tryd.prog 4 #[v] w fun e w' => e = .returned (.bool true) ∧ Below w.heap.size w w' := by
  have HKW := Lib.hid hkw
  have HH := Lib.hid h
  obtain ⟨p1, n1, m1, p2, n2, m2, p3, n3, m3, rfl⟩ := h.agg
  have HB := Lib.hid (below_alloc w)
  have HA0 := Lib.hid (Go.Deep.blk_alloc_new w (.cells #[.int .i64 t.kd, .slice p1 n1 m1, .slice p2 n2 m2, .slice p3 n3 m3] 43))
  clear h hkw
  by_cases hsz : t.sz ≤ 1048576
  · have E1 := Lib.hid (leftOf_le hsz)
    obtain ⟨q, hq⟩ : ∃ q, q = 1048576 - t.sz := ⟨_, rfl⟩
    rw [← hq] at E1
    have z1 : 0 ≤ (q : Int) := by omega
    have HSZ := Lib.hid hsz
    obtain ⟨r, hr⟩ : ∃ r, textOf t = r := ⟨_, rfl⟩
    have HR := Lib.hid hr
    clear hq hsz hr
    go_enter Tryd.func4, Tryd.ntmps4
    go_wp2_with fail
    refine (szSh_any t _ 1048576 _ (IsSh.keep (keeps_alloc _ _) _ _ HH.out) (Nat.le_refl _)).mono ?_
    rintro e w1 ⟨rfl, hb1⟩
    rw [E1.out]
    have A1 := Lib.hid (blk_below HA0.out hb1 (by simp))
    have B1 := Lib.hid ((HB.out _).trans (hb1.mono (by simp)))
    clear hb1
    obtain ⟨a0, a1, a2, a3, _, _, _, _, az⟩ := blk4 A1.out
    go_wp2_with fail
    refine (toSh_any t _ _ (IsSh.keep (Keeps.of_below B1.out) _ _ HH.out) HSZ.out).mono ?_
    rintro e w2 ⟨c0, c1, c2, c3, F, rfl, ho2, _, hb2⟩
    have S2 := Lib.hid (OwnSh.is _ _ _ ho2)
    have A2 := Lib.hid (blk_below A1.out hb2 az)
    have B2 := Lib.hid (B1.out.trans (hb2.mono B1.out.size))
    clear hb2 a0 a1 a2 a3 az ho2
    go_wp2_with fail
    refine (specText_is t _ HR.out _ _ S2.out).mono ?_
    rintro e w3 ⟨rfl, hb3⟩
    have A3 := Lib.hid (blk_below A2.out hb3 (blk4 A2.out).2.2.2.2.2.2.2.2)
    have B3 := Lib.hid (B2.out.trans (hb3.mono B2.out.size))
    clear hb3
    obtain ⟨a0, a1, a2, a3, _, _, _, _, az⟩ := blk4 A3.out
    go_wp2_with fail
    refine (toSh_any t _ _ (IsSh.keep (Keeps.of_below B3.out) _ _ HH.out) HSZ.out).mono ?_
    rintro e w4 ⟨c0, c1, c2, c3, F, rfl, ho4, _, hb4⟩
    have hs4 := OwnSh.is _ _ _ ho4
    obtain ⟨q1, i1, j1, q2, i2, j2, q3, i3, j3, rfl, rfl, rfl, rfl⟩ := hs4.cells
    have S4 := Lib.hid hs4
    have A4 := Lib.hid (blk_below A3.out hb4 az)
    have B4 := Lib.hid (B3.out.trans (hb4.mono B3.out.size))
    clear hb4 a0 a1 a2 a3 az ho4 hs4
    go_wp2_with fail
    have X5 := Lib.hid (Go.Deep.blk_alloc_new w4 (.cells #[.int .i64 t.kd, .slice q1 i1 j1, .slice q2 i2 j2, .slice q3 i3 j3] 26))
    have B5 := Lib.hid (B4.out.alloc B4.out.size (.cells #[.int .i64 t.kd, .slice q1 i1 j1, .slice q2 i2 j2, .slice q3 i3 j3] 26))
    have S5 := Lib.hid (IsSh.keep (keeps_alloc w4 (.cells #[.int .i64 t.kd, .slice q1 i1 j1, .slice q2 i2 j2, .slice q3 i3 j3] 26)) _ _ S4.out)
    have A5 := Lib.hid (blk_below A4.out (below_alloc w4 (.cells #[.int .i64 t.kd, .slice q1 i1 j1, .slice q2 i2 j2, .slice q3 i3 j3] 26)) (blk4 A4.out).2.2.2.2.2.2.2.2)
    refine (implText_is t _ HR.out _ _ S5.out (HKW.out.keep (Keeps.of_below B5.out))).mono ?_
    rintro e w6 ⟨rfl, hb6⟩
    have A6 := Lib.hid (blk_below A5.out hb6 (blk4 A5.out).2.2.2.2.2.2.2.2)
    have X6 := Lib.hid (blk_below X5.out hb6 (blk4 X5.out).2.2.2.2.2.2.2.2)
    have S6 := Lib.hid (IsSh.keep (Keeps.of_below hb6) _ _ S5.out)
    have B6 := Lib.hid (B5.out.trans (hb6.mono B5.out.size))
    clear hb6
    obtain ⟨a0, a1, a2, a3, _, _, _, _, az⟩ := blk4 A6.out
    obtain ⟨x0, x1, x2, x3, _, _, _, _, xz⟩ := blk4 X6.out
    go_wp2_with fail
    go_region_with (first
      | (go_at_call 27; refine (toSh_any t _ _ (IsSh.keep keeps_drew _ _ (IsSh.keep (Keeps.of_below B6.out) _ _ HH.out)) HSZ.out).mono ?_; rintro e w7 ⟨c0, c1, c2, c3, F, rfl, ho7, _, hb7⟩; have S7 := Lib.hid (OwnSh.is _ _ _ ho7); have T7 := Lib.hid (IsSh.keep (Keeps.of_below hb7) _ _ (IsSh.keep keeps_drew _ _ S6.out)); have B7 := Lib.hid (B6.out.drew.trans (hb7.mono B6.out.size)); obtain ⟨y0, y1, y2, y3, _, _, _, _, _⟩ := blk4 (blk_below (w := w6.drew) X6.out hb7 xz); clear hb7 ho7)
      | (go_at_call 28; refine (eqSh_same t _ _ _ T7.out S7.out).mono ?_; rintro e w8 ⟨rfl, hb8⟩; have B8 := Lib.hid (B7.out.trans (hb8.mono B7.out.size)); clear hb8))
    all_goals
      go_wp2_with fail
      go_ret
      exact ⟨rfl, B8.out⟩
  · have E1 := Lib.hid (leftOf_lt (left := 1048576) (n := t.sz) (by omega))
    clear hsz
    go_enter Tryd.func4, Tryd.ntmps4
    go_wp2_with fail
    refine (szSh_any t _ 1048576 _ (IsSh.keep (keeps_alloc _ _) _ _ HH.out) (Nat.le_refl _)).mono ?_
    rintro e w1 ⟨rfl, hb1⟩
    rw [E1.out]
    have B1 := Lib.hid ((HB.out _).trans (hb1.mono (by simp)))
    clear hb1
    go_wp2_with fail
    go_ret
    exact ⟨rfl, B1.out⟩

set_option maxRecDepth 100000 in
theorem lifted (os : Os) (started : os.Started) (H : Type) (enc : TypeId × Value → H) :
    ReturnsInHanded {} Tryd.checked os 4 .any (fun w args => (Rows.fnExactShapeTextSpec.pre enc Tryd.prog Tryd.f4 [] false w args ∧ laidMetH Tryd.prog Rows.fnExactShapeTextRow.laid w) ∧ sizedMet enc Tryd.prog Tryd.f4 (OpenSpec.ofChange Rows.fnExactShapeTextSpec) false w args)
      (Rows.fnExactShapeTextSpec.post enc Tryd.prog Tryd.f4 false true false false) := by
  refine returnsInHanded_of_change_and (C := Tryd.checked) (X := fun w _ => laidMetH Tryd.prog Rows.fnExactShapeTextRow.laid w) (fun _ _ _ hh h => h.of_heap hh) own started (by kernel_rfl) Tryd.func4
    (ChangeSpec.witness_at (enc := enc) (C := Tryd.checked) (os := os) (X := fun w _ => laidMetH Tryd.prog Rows.fnExactShapeTextRow.laid w) false (laidWorld os) #[.agg #[.int .i64 0, .slice none 0 0, .slice none 0 0, .slice none 0 0]] 8 rfl (by kernel_rfl) (by kernel_rfl) (by kernel_rfl) (by kernel_rfl) (by kernel_rfl) (laidWorld_met os _)) ?_
  intro W base args ds gs before hval0 hW hcnd _ hL _
  have hval : ∀ (j : Nat) t v, Tryd.f4.params[j]? = some t → args[j]? = some v → Value.okWide Tryd.prog W .any base t v := hval0
  have hW' := hW
  obtain ⟨p, q, hA0, hV0, rfl, hfz, hnd⟩ := hW
  have hV : DataW.TrodVars enc Tryd.prog W (fun _ => true) Rows.fnExactShapeTextSpec.vars gs q := hV0
  have hA : DataW.TrodAll enc Tryd.prog W 0 (fun _ => true) true Tryd.f4.params.toList args.toList ds p := hA0
  rw [Tryd.params4] at hA hval
  obtain ⟨v0, vs0, d0, ds0, p0, q0, hargs, rfl, rfl, h0, r0⟩ := trodAll_cons hA
  obtain ⟨rfl, rfl, rfl⟩ := trodAll_nil r0
  obtain rfl : args = #[v0] := by cases args; simp_all
  have hg := kw_of_laid hL
  obtain ⟨g9, t9, cs9, fuel9, d9, p9, rfl, _, _, _, _, _⟩ := trodVars_one hV
  obtain ⟨t0, w0⟩ := open_sh (hval 0 43 v0 rfl rfl) h0
  have k0 := h0
  have lt0 : ∀ x ∈ p0, x.block < W.heap.size := by obtain ⟨m, hm⟩ := k0; exact DataW.trod_lt m _ _ _ hm
  clear hA0 hval0
  refine (walk t0 v0 W w0 hg).mono fun e W' ⟨he, bel⟩ => ?_
  subst he
  exact ⟨_, rfl, _, _, _, [], _, _, hW', trodAll_mk1 (shut_bool Tryd.underlying4 _), (trodAll_cons_mk (Below.trod laidOut (by kernel_rfl) (of_decide_eq_true (by kernel_rfl)) k0 bel lt0) trodAll_mk0), RowKit.Below.trodVars laidOut bel (by kernel_rfl) hV, bel.frame _, fun h => by cases h⟩

theorem row_holds : Rows.FnExactShapeTextSaid :=
  OpenClaim.holds_of_wide 4 Tryd.f4 rfl rfl rfl rfl rfl rfl rfl ⟨rfl, rfl, rfl, rfl, rfl⟩ rfl rfl rfl rfl rfl (by kernel_rfl) Tryd.func4 (by kernel_rfl)
    (of_decide_eq_true (by kernel_rfl)) (by unfold Func.isWrapper; first | (rw [if_pos (by decide +kernel)]; kernel_rfl) | (rw [if_neg (by decide +kernel)]; exact ⟨rfl, rfl⟩))
    (fun os started H enc _ => lifted os started H enc)

/-- The card: the listed variable is tied to the program's text. -/
theorem proved : Rows.FnExactShapeTextCardSaid :=
  Claim7.holds_tied_plain_at .later [] [.data] true Rows.fnExactShapeTextCard.stood.harness true
    row_holds (fun _ h => by cases h) (by kernel_rfl) (fun _ h => by cases h) fnExactShapeText_row_tie rfl ⟨rfl, rfl⟩ (by kernel_rfl) rfl
    (fun f fn hf hfn => by
      obtain rfl : f = 4 := Option.some.inj ((show Tryd.prog.funcNamed "loop.example/g00848/laws.FnExactShapeText" = some 4 by kernel_rfl).symm.trans hf) |>.symm
      obtain rfl : fn = Tryd.f4 := (Option.some.inj (Tryd.func4.symm.trans hfn)).symm
      exact ⟨by kernel_rfl, fun j t ht => by
        rw [Tryd.params4] at ht
        have hm : t ∈ [43] := by have := Array.mem_of_getElem? ht; simpa using this
        simp only [List.mem_cons, List.not_mem_nil, or_false] at hm
        rcases hm with rfl
        · exact (show Tryd.prog.wantsStandIn 43 = false by kernel_rfl)⟩)
    (by kernel_rfl)
#print axioms proved
end Go.Proofs.YtflpfphfoibggaaDoor.textShL
