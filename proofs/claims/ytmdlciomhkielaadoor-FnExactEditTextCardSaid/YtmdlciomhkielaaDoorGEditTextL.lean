/- For every input laws.FnExactEditText returns true: impl.EditText answers as its model does, and writes nothing that was there. The condition is the card's: the listed variables impl.editKinds, impl.kindWords and strconv's tables are tied to the program's text. -/
import Derived.Test.YtmdlciomhkielaaDoorGEtSW
import Derived.Test.YtmdlciomhkielaaDoorGEtIW
import Derived.Test.YtmdlciomhkielaaDoorGEtDoor
import Derived.Test.YtmdlciomhkielaaDoorGSzEdW
import Derived.Test.YtmdlciomhkielaaDoorGToEdW
import Derived.Test.YtmdlciomhkielaaDoorGEqEdW
import Derived.Test.YtmdlciomhkielaaDoorGEdO
import Derived.Test.YtmdlciomhkielaaDoorGFrame
import Derived.Deep.RegionWith
namespace Go.Proofs.YtmdlciomhkielaaDoor.editTextL
open Go.ChangeShapes Go.WideShapes Go.ChangeAt Go.RowKit etDoor

set_option maxRecDepth 100000 in
set_option maxHeartbeats 8000000 in
theorem walk (t : Ed) (v : Value) (w : World) (h : IsEd w t v) (hek : EkAt w ∧ KwAt w) :
    Calls Tryd.prog 6 #[v] w fun e w' => e = .returned (.bool true) ∧ Below w.heap.size w w' := by
  have HH := Lib.hid h
  have EK := Lib.hid hek
  obtain ⟨p0, m0, p1, n1, m1, p2, n2, m2, p3, n3, m3, q1, i1, j1, q2, i2, j2, q3, i3, j3, rfl, _, _, _, _, _, _, _⟩ := h
  obtain ⟨W, hW⟩ : ∃ W, W = w.alloc (.cells #[.int .i64 t.kd, .slice p0 t.path.length m0, .int .i64 t.pl, .string t.nm, .string t.tn, .int .i64 t.sh.kd, .slice p1 n1 m1, .slice p2 n2 m2, .slice p3 n3 m3, .int .i64 t.ws.kd, .slice q1 i1 j1, .slice q2 i2 j2, .slice q3 i3 j3] 47) := ⟨_, rfl⟩
  have hba := below_alloc w (.cells #[.int .i64 t.kd, .slice p0 t.path.length m0, .int .i64 t.pl, .string t.nm, .string t.tn, .int .i64 t.sh.kd, .slice p1 n1 m1, .slice p2 n2 m2, .slice p3 n3 m3, .int .i64 t.ws.kd, .slice q1 i1 j1, .slice q2 i2 j2, .slice q3 i3 j3] 47)
  have hx := Go.Deep.blk_alloc_new w (.cells #[.int .i64 t.kd, .slice p0 t.path.length m0, .int .i64 t.pl, .string t.nm, .string t.tn, .int .i64 t.sh.kd, .slice p1 n1 m1, .slice p2 n2 m2, .slice p3 n3 m3, .int .i64 t.ws.kd, .slice q1 i1 j1, .slice q2 i2 j2, .slice q3 i3 j3] 47)
  rw [← hW] at hba hx
  have A0 := Lib.hid hx
  have B0 := Lib.hid hba
  have HW := Lib.hid hW
  clear hba hx hW hek
  by_cases hsz : t.sz ≤ 1048576
  · have E1 := Lib.hid (leftOf_le (left := 1048576) hsz)
    obtain ⟨q, hq⟩ : ∃ q, q = 1048576 - t.sz := ⟨_, rfl⟩
    rw [← hq] at E1
    have z1 : 0 ≤ (q : Int) := by omega
    have HSZ := Lib.hid hsz
    obtain ⟨r, hr⟩ : ∃ r, etT t = r := ⟨_, rfl⟩
    have HR := Lib.hid hr
    clear hq hsz hr
    have a0 := cel A0.out 0 rfl
    have a1 := cel A0.out 1 rfl
    have a2 := cel A0.out 2 rfl
    have a3 := cel A0.out 3 rfl
    have a4 := cel A0.out 4 rfl
    have a5 := cel A0.out 5 rfl
    have a6 := cel A0.out 6 rfl
    have a7 := cel A0.out 7 rfl
    have a8 := cel A0.out 8 rfl
    have a9 := cel A0.out 9 rfl
    have a10 := cel A0.out 10 rfl
    have a11 := cel A0.out 11 rfl
    have a12 := cel A0.out 12 rfl
    go_enter Tryd.func6, Tryd.ntmps6
    go_wp2_with fail
    rw [← HW.out]
    refine (szEd_any t _ 1048576 _ (HH.out.keep (Keeps.of_below B0.out)) (Nat.le_refl _)).mono ?_
    rintro e w1 ⟨rfl, hb1⟩
    rw [E1.out]
    have A1 := Lib.hid (blk_below A0.out hb1 (Array.getElem?_eq_some_iff.1 A0.out).1)
    have B1 := Lib.hid (B0.out.trans (hb1.mono B0.out.size))
    clear hb1 a0 a1 a2 a3 a4 a5 a6 a7 a8 a9 a10 a11 a12
    have a0 := cel A1.out 0 rfl
    have a1 := cel A1.out 1 rfl
    have a2 := cel A1.out 2 rfl
    have a3 := cel A1.out 3 rfl
    have a4 := cel A1.out 4 rfl
    have a5 := cel A1.out 5 rfl
    have a6 := cel A1.out 6 rfl
    have a7 := cel A1.out 7 rfl
    have a8 := cel A1.out 8 rfl
    have a9 := cel A1.out 9 rfl
    have a10 := cel A1.out 10 rfl
    have a11 := cel A1.out 11 rfl
    have a12 := cel A1.out 12 rfl
    go_wp2_with fail
    refine (toEd_any t _ _ (HH.out.keep (Keeps.of_below B1.out)) HSZ.out).mono ?_
    rintro e w2 ⟨v2, F2, rfl, ho, _, hb2⟩
    have S2 := Lib.hid ho.is
    have A2 := Lib.hid (blk_below A1.out hb2 (Array.getElem?_eq_some_iff.1 A1.out).1)
    have B2 := Lib.hid (B1.out.trans (hb2.mono B1.out.size))
    clear hb2 ho a0 a1 a2 a3 a4 a5 a6 a7 a8 a9 a10 a11 a12
    go_wp2_with fail
    refine (specEdText_is t r HR.out _ _ S2.out).mono ?_
    rintro e w3 ⟨rfl, hb3⟩
    have A3 := Lib.hid (blk_below A2.out hb3 (Array.getElem?_eq_some_iff.1 A2.out).1)
    have B3 := Lib.hid (B2.out.trans (hb3.mono B2.out.size))
    clear hb3
    have a0 := cel A3.out 0 rfl
    have a1 := cel A3.out 1 rfl
    have a2 := cel A3.out 2 rfl
    have a3 := cel A3.out 3 rfl
    have a4 := cel A3.out 4 rfl
    have a5 := cel A3.out 5 rfl
    have a6 := cel A3.out 6 rfl
    have a7 := cel A3.out 7 rfl
    have a8 := cel A3.out 8 rfl
    have a9 := cel A3.out 9 rfl
    have a10 := cel A3.out 10 rfl
    have a11 := cel A3.out 11 rfl
    have a12 := cel A3.out 12 rfl
    go_wp2_with fail
    refine (toEd_any t _ _ (HH.out.keep (Keeps.of_below B3.out)) HSZ.out).mono ?_
    rintro e w4 ⟨v4, F4, rfl, ho, _, hb4⟩
    have hs4 := ho.is
    obtain ⟨g0, l0, g1, x1, l1, g2, x2, l2, g3, x3, l3, k1, c1, d1, k2, c2, d2, k3, c3, d3, rfl, _, _, _, _, _, _, _⟩ := hs4
    have S4 := Lib.hid ho.is
    have A4 := Lib.hid (blk_below A3.out hb4 (Array.getElem?_eq_some_iff.1 A3.out).1)
    have B4 := Lib.hid (B3.out.trans (hb4.mono B3.out.size))
    clear hb4 ho a0 a1 a2 a3 a4 a5 a6 a7 a8 a9 a10 a11 a12
    go_wp2_with fail
    have X5 := Lib.hid (Go.Deep.blk_alloc_new w4 (.cells #[.int .i64 t.kd, .slice g0 t.path.length l0, .int .i64 t.pl, .string t.nm, .string t.tn, .int .i64 t.sh.kd, .slice g1 x1 l1, .slice g2 x2 l2, .slice g3 x3 l3, .int .i64 t.ws.kd, .slice k1 c1 d1, .slice k2 c2 d2, .slice k3 c3 d3] 51))
    have B5 := Lib.hid (B4.out.alloc B4.out.size (.cells #[.int .i64 t.kd, .slice g0 t.path.length l0, .int .i64 t.pl, .string t.nm, .string t.tn, .int .i64 t.sh.kd, .slice g1 x1 l1, .slice g2 x2 l2, .slice g3 x3 l3, .int .i64 t.ws.kd, .slice k1 c1 d1, .slice k2 c2 d2, .slice k3 c3 d3] 51))
    have S5 := Lib.hid (S4.out.keep (keeps_alloc w4 (.cells #[.int .i64 t.kd, .slice g0 t.path.length l0, .int .i64 t.pl, .string t.nm, .string t.tn, .int .i64 t.sh.kd, .slice g1 x1 l1, .slice g2 x2 l2, .slice g3 x3 l3, .int .i64 t.ws.kd, .slice k1 c1 d1, .slice k2 c2 d2, .slice k3 c3 d3] 51)))
    have A5 := Lib.hid (blk_below A4.out (below_alloc w4 (.cells #[.int .i64 t.kd, .slice g0 t.path.length l0, .int .i64 t.pl, .string t.nm, .string t.tn, .int .i64 t.sh.kd, .slice g1 x1 l1, .slice g2 x2 l2, .slice g3 x3 l3, .int .i64 t.ws.kd, .slice k1 c1 d1, .slice k2 c2 d2, .slice k3 c3 d3] 51)) (Array.getElem?_eq_some_iff.1 A4.out).1)
    refine (implEdText_is t r HR.out _ _ S5.out (EK.out.1.keep (Keeps.of_below B5.out)) (etDoor.KwAt.on EK.out.2 (Keeps.of_below B5.out))).mono ?_
    rintro e w6 ⟨rfl, hb6⟩
    have A6 := Lib.hid (blk_below A5.out hb6 (Array.getElem?_eq_some_iff.1 A5.out).1)
    have X6 := Lib.hid (blk_below X5.out hb6 (Array.getElem?_eq_some_iff.1 X5.out).1)
    have S6 := Lib.hid (S5.out.keep (Keeps.of_below hb6))
    have B6 := Lib.hid (B5.out.trans (hb6.mono B5.out.size))
    clear hb6
    have a0 := cel A6.out 0 rfl
    have a1 := cel A6.out 1 rfl
    have a2 := cel A6.out 2 rfl
    have a3 := cel A6.out 3 rfl
    have a4 := cel A6.out 4 rfl
    have a5 := cel A6.out 5 rfl
    have a6 := cel A6.out 6 rfl
    have a7 := cel A6.out 7 rfl
    have a8 := cel A6.out 8 rfl
    have a9 := cel A6.out 9 rfl
    have a10 := cel A6.out 10 rfl
    have a11 := cel A6.out 11 rfl
    have a12 := cel A6.out 12 rfl
    have x0 := cel X6.out 0 rfl
    have x1 := cel X6.out 1 rfl
    have x2 := cel X6.out 2 rfl
    have x3 := cel X6.out 3 rfl
    have x4 := cel X6.out 4 rfl
    have x5 := cel X6.out 5 rfl
    have x6 := cel X6.out 6 rfl
    have x7 := cel X6.out 7 rfl
    have x8 := cel X6.out 8 rfl
    have x9 := cel X6.out 9 rfl
    have x10 := cel X6.out 10 rfl
    have x11 := cel X6.out 11 rfl
    have x12 := cel X6.out 12 rfl
    have xz := (Array.getElem?_eq_some_iff.1 X6.out).1
    go_wp2_with fail
    go_region_with (first
      | (go_at_call 27; refine (toEd_any t _ _ ((HH.out.keep (Keeps.of_below B6.out)).keep keeps_drew) HSZ.out).mono ?_; rintro e w7 ⟨v7, F7, rfl, ho7, _, hb7⟩; have S7 := Lib.hid ho7.is; have T7 := Lib.hid ((S6.out.keep keeps_drew).keep (Keeps.of_below hb7)); have B7 := Lib.hid (B6.out.drew.trans (hb7.mono B6.out.size)); have y0 := cel (blk_below (w := w6.drew) X6.out hb7 xz) 0 rfl; have y1 := cel (blk_below (w := w6.drew) X6.out hb7 xz) 1 rfl; have y2 := cel (blk_below (w := w6.drew) X6.out hb7 xz) 2 rfl; have y3 := cel (blk_below (w := w6.drew) X6.out hb7 xz) 3 rfl; have y4 := cel (blk_below (w := w6.drew) X6.out hb7 xz) 4 rfl; have y5 := cel (blk_below (w := w6.drew) X6.out hb7 xz) 5 rfl; have y6 := cel (blk_below (w := w6.drew) X6.out hb7 xz) 6 rfl; have y7 := cel (blk_below (w := w6.drew) X6.out hb7 xz) 7 rfl; have y8 := cel (blk_below (w := w6.drew) X6.out hb7 xz) 8 rfl; have y9 := cel (blk_below (w := w6.drew) X6.out hb7 xz) 9 rfl; have y10 := cel (blk_below (w := w6.drew) X6.out hb7 xz) 10 rfl; have y11 := cel (blk_below (w := w6.drew) X6.out hb7 xz) 11 rfl; have y12 := cel (blk_below (w := w6.drew) X6.out hb7 xz) 12 rfl; clear hb7 ho7)
      | (go_at_call 29; refine (eqEd_same t _ _ _ T7.out S7.out).mono ?_; rintro e w8 ⟨rfl, hb8⟩; have B8 := Lib.hid (B7.out.trans (hb8.mono B7.out.size)); clear hb8))
    all_goals
      go_wp2_with fail
      go_ret
      exact ⟨rfl, B8.out⟩
  · have E1 := Lib.hid (leftOf_lt (left := 1048576) (n := t.sz) (by omega))
    clear hsz
    have a0 := cel A0.out 0 rfl
    have a1 := cel A0.out 1 rfl
    have a2 := cel A0.out 2 rfl
    have a3 := cel A0.out 3 rfl
    have a4 := cel A0.out 4 rfl
    have a5 := cel A0.out 5 rfl
    have a6 := cel A0.out 6 rfl
    have a7 := cel A0.out 7 rfl
    have a8 := cel A0.out 8 rfl
    have a9 := cel A0.out 9 rfl
    have a10 := cel A0.out 10 rfl
    have a11 := cel A0.out 11 rfl
    have a12 := cel A0.out 12 rfl
    go_enter Tryd.func6, Tryd.ntmps6
    go_wp2_with fail
    rw [← HW.out]
    refine (szEd_any t _ 1048576 _ (HH.out.keep (Keeps.of_below B0.out)) (Nat.le_refl _)).mono ?_
    rintro e w1 ⟨rfl, hb1⟩
    rw [E1.out]
    have B1 := Lib.hid (B0.out.trans (hb1.mono B0.out.size))
    clear hb1
    go_wp2_with fail
    go_ret
    exact ⟨rfl, B1.out⟩

set_option maxRecDepth 100000 in
theorem lifted (os : Os) (started : os.Started) (H : Type) (enc : TypeId × Value → H) :
    ReturnsInHanded {} Tryd.checked os 6 .any (fun w args => (Rows.fnExactEditTextSpec.pre enc Tryd.prog Tryd.f6 [] false w args ∧ laidMetH Tryd.prog Rows.fnExactEditTextRow.laid w) ∧ sizedMet enc Tryd.prog Tryd.f6 (OpenSpec.ofChange Rows.fnExactEditTextSpec) false w args)
      (Rows.fnExactEditTextSpec.post enc Tryd.prog Tryd.f6 false true false false) := by
  refine returnsInHanded_of_change_and (C := Tryd.checked) (X := fun w _ => laidMetH Tryd.prog Rows.fnExactEditTextRow.laid w) (fun _ _ _ hh h => h.of_heap hh) own started (by kernel_rfl) Tryd.func6
    (ChangeSpec.witness_at (enc := enc) (C := Tryd.checked) (os := os) (X := fun w _ => laidMetH Tryd.prog Rows.fnExactEditTextRow.laid w) false (laidWorld os) #[.agg #[.int .i64 0, .slice none 0 0, .int .i64 0, .string ⟨#[]⟩, .string ⟨#[]⟩, .int .i64 0, .slice none 0 0, .slice none 0 0, .slice none 0 0, .int .i64 0, .slice none 0 0, .slice none 0 0, .slice none 0 0]] 8 rfl (by kernel_rfl) (by kernel_rfl) (by kernel_rfl) (by kernel_rfl) (by kernel_rfl) (laidWorld_met os _)) ?_
  intro W base args ds gs before hval0 hW hcnd _ hL _
  have hval : ∀ (j : Nat) t v, Tryd.f6.params[j]? = some t → args[j]? = some v → Value.okWide Tryd.prog W .any base t v := hval0
  have hW' := hW
  obtain ⟨p, q, hA0, hV0, rfl, hfz, hnd⟩ := hW
  have hV : DataW.TrodVars enc Tryd.prog W (fun _ => true) Rows.fnExactEditTextSpec.vars gs q := hV0
  have hA : DataW.TrodAll enc Tryd.prog W 0 (fun _ => true) true Tryd.f6.params.toList args.toList ds p := hA0
  rw [Tryd.params6] at hA hval
  obtain ⟨v0, vs0, d0, ds0, p0, q0, hargs, rfl, rfl, h0, r0⟩ := trodAll_cons hA
  obtain ⟨rfl, rfl, rfl⟩ := trodAll_nil r0
  obtain rfl : args = #[v0] := by cases args; simp_all
  have hg := five_of_laid hL
  obtain ⟨g9, t9, cs9, f9, d9, p9, g8, t8, cs8, f8, d8, p8, rfl, _, _, _, _, _, _, _, _, _⟩ := trodVars_two hV
  obtain ⟨t0, w0⟩ := open_ed (hval 0 47 v0 rfl rfl) h0
  have k0 := h0
  have lt0 : ∀ x ∈ p0, x.block < W.heap.size := by obtain ⟨m, hm⟩ := k0; exact DataW.trod_lt m _ _ _ hm
  clear hA0 hval0
  refine (walk t0 v0 W w0 hg).mono fun e W' ⟨he, bel⟩ => ?_
  subst he
  exact ⟨_, rfl, _, _, _, [], _, _, hW', trodAll_mk1 (shut_bool Tryd.underlying4 _), (trodAll_cons_mk (Below.trod laidOut (by kernel_rfl) (of_decide_eq_true (by kernel_rfl)) k0 bel lt0) trodAll_mk0), RowKit.Below.trodVars laidOut bel (by kernel_rfl) hV, bel.frame _, fun h => by cases h⟩

theorem row_holds : Rows.FnExactEditTextSaid :=
  OpenClaim.holds_of_wide 6 Tryd.f6 rfl rfl rfl rfl rfl rfl rfl ⟨rfl, rfl, rfl, rfl, rfl⟩ rfl rfl rfl rfl rfl (by kernel_rfl) Tryd.func6 (by kernel_rfl)
    (of_decide_eq_true (by kernel_rfl)) (by unfold Func.isWrapper; first | (rw [if_pos (by decide +kernel)]; kernel_rfl) | (rw [if_neg (by decide +kernel)]; exact ⟨rfl, rfl⟩))
    (fun os started H enc _ => lifted os started H enc)

/-- The card: the listed variable is tied to the program's text. -/
theorem proved : Rows.FnExactEditTextCardSaid :=
  Claim7.holds_tied_plain_at .later [] [.data, .data, .data, .data, .data] true Rows.fnExactEditTextCard.stood.harness true
    row_holds (fun _ h => by cases h) (by kernel_rfl) (fun _ h => by cases h) fnExactEditText_row_tie rfl ⟨rfl, rfl⟩ (by kernel_rfl) rfl
    (fun f fn hf hfn => by
      obtain rfl : f = 6 := Option.some.inj ((show Tryd.prog.funcNamed "loop.example/g00848/laws.FnExactEditText" = some 6 by kernel_rfl).symm.trans hf) |>.symm
      obtain rfl : fn = Tryd.f6 := (Option.some.inj (Tryd.func6.symm.trans hfn)).symm
      exact ⟨by kernel_rfl, fun j t ht => by
        rw [Tryd.params6] at ht
        have hm : t ∈ [47] := by have := Array.mem_of_getElem? ht; simpa using this
        simp only [List.mem_cons, List.not_mem_nil, or_false] at hm
        rcases hm with rfl
        · exact (show Tryd.prog.wantsStandIn 47 = false by kernel_rfl)⟩)
    (by kernel_rfl)
#print axioms proved
end Go.Proofs.YtmdlciomhkielaaDoor.editTextL
