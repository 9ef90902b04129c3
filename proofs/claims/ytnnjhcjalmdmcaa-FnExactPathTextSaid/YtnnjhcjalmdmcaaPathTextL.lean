/- For every input laws.FnExactPathText returns true: impl.PathText answers as its model does, and writes nothing that was there. No condition. -/
import Derived.Test.YtnnjhcjalmdmcaaPathTW
import Derived.Test.YtnnjhcjalmdmcaaStrsO
import Derived.Test.YtnnjhcjalmdmcaaToW
import Derived.Test.YtnnjhcjalmdmcaaEqW
import Derived.Test.YtnnjhcjalmdmcaaMarkTW
import Derived.Test.YtnnjhcjalmdmcaaFrame
namespace Go.Proofs.Ytnnjhcjalmdmcaa.pathTextL
open Go.ChangeShapes Go.WideShapes Go.ChangeAt Go.RowKit

set_option maxRecDepth 100000 in
set_option maxHeartbeats 2000000 in
theorem walk (t : List ByteArray) (v : Value) (w : World) (h : IsStrs w v t) :
    Calls Try.prog 4 #[v] w fun e w' => e = .returned (.bool true) ∧ Below w.heap.size w w' := by
  have HH := Lib.hid h
  clear h
  by_cases hsz : strsSz t ≤ 1048576
  · have E1 := Lib.hid (leftOf_le (left := 1048576) hsz)
    obtain ⟨q, hq⟩ : ∃ q, q = 1048576 - strsSz t := ⟨_, rfl⟩
    rw [← hq] at E1
    have z1 : 0 ≤ (q : Int) := by omega
    have HSZ := Lib.hid hsz
    have HL : Hid (t.length ≤ 1048576) := by have := hsz; unfold strsSz at this; show _ ≤ _; omega
    obtain ⟨r, hr⟩ : ∃ r : ByteArray, pathT t = r := ⟨_, rfl⟩
    have HR := Lib.hid hr
    clear hq hsz hr
    go_enter Try.func4, Try.ntmps4
    go_wp2_with fail
    refine (szStrs_any v t 1048576 _ HH.out (Nat.le_refl _)).mono ?_
    rintro e w0 ⟨rfl, hw0⟩
    subst hw0
    rw [E1.out]
    go_wp2_with fail
    refine (toStrs_any v t _ HH.out HL.out).mono ?_
    rintro e w1 ⟨rfl, ho1, hb1, _⟩
    have O1 := Lib.hid ho1
    have B1 := Lib.hid hb1
    clear ho1 hb1
    go_wp2_with fail
    refine (specPathText_is _ t r HR.out w1 O1.out.is).mono ?_
    rintro e w2 ⟨rfl, hb2⟩
    have B2 := Lib.hid (B1.out.trans (hb2.mono B1.out.size))
    clear hb2
    go_wp2_with fail
    refine (toStrs_any v t _ (HH.out.keep (Keeps.of_below B2.out)) HL.out).mono ?_
    rintro e w3 ⟨rfl, ho3, hb3, _⟩
    have O3 := Lib.hid ho3
    have B3 := Lib.hid (B2.out.trans (hb3.mono B2.out.size))
    clear ho3 hb3
    go_wp2_with fail
    refine (implPathText_is _ t r HR.out w3 O3.out.is).mono ?_
    rintro e w4 ⟨rfl, hb4⟩
    have B4 := Lib.hid (B3.out.trans (hb4.mono B3.out.size))
    have O4 := Lib.hid (O3.out.on hb4)
    clear hb4
    go_wp2_with fail
    refine (toStrs_any v t _ (HH.out.keep (Keeps.of_below B4.out)) HL.out).mono ?_
    rintro e w5 ⟨rfl, ho5, hb5, _⟩
    have O5 := Lib.hid ho5
    have O5' := Lib.hid (O4.out.on hb5)
    have B5 := Lib.hid (B4.out.trans (hb5.mono B4.out.size))
    clear ho5 hb5
    go_wp2_with fail
    refine (eqStrs_same _ _ t _ O5'.out.is O5.out.is).mono ?_
    rintro e w6 ⟨rfl, hb6⟩
    have B6 := Lib.hid (B5.out.trans (hb6.mono B5.out.size))
    clear hb6
    go_wp2_with fail
    go_ret
    exact ⟨rfl, B6.out⟩
  · have E1 := Lib.hid (leftOf_lt (left := 1048576) (n := strsSz t) (by omega))
    clear hsz
    go_enter Try.func4, Try.ntmps4
    go_wp2_with fail
    refine (szStrs_any v t 1048576 _ HH.out (Nat.le_refl _)).mono ?_
    rintro e w0 ⟨rfl, hw0⟩
    subst hw0
    rw [E1.out]
    go_wp2_with fail
    go_ret
    exact ⟨rfl, Below.refl _ _⟩

set_option maxRecDepth 100000 in
theorem lifted (os : Os) (started : os.Started) (H : Type) (enc : TypeId × Value → H) :
    ReturnsInHanded {} Try.checked os 4 .any (Rows.fnExactPathTextSpec.pre6 enc Try.prog Try.f4 Rows.fnExactPathTextRow.domain false) (Rows.fnExactPathTextSpec.post enc Try.prog Try.f4 false true false false) := by
  refine returnsInHanded_of_change (C := Try.checked) own started (by kernel_rfl) Try.func4
    (ChangeSpec.witness6 (enc := enc) (C := Try.checked) false ⟨#[], #[.slice none 0 0], []⟩ 8 (by kernel_rfl) (by kernel_rfl) (by kernel_rfl) (by kernel_rfl)) ?_
  intro W base args ds gs before hval0 hW hcnd _
  have hval : ∀ (j : Nat) t v, Try.f4.params[j]? = some t → args[j]? = some v → Value.okWide Try.prog W .any base t v := hval0
  have hW' := hW
  obtain ⟨p, q, hA0, hV, rfl, hfz, hnd⟩ := hW
  have hA : DataW.TrodAll enc Try.prog W 0 (fun _ => true) true Try.f4.params.toList args.toList ds p := hA0
  rw [Try.params4] at hA hval
  obtain ⟨v0, vs0, d0, ds0, p0, q0, hargs, rfl, rfl, h0, r0⟩ := trodAll_cons hA
  obtain ⟨rfl, rfl, rfl⟩ := trodAll_nil r0
  obtain rfl : args = #[v0] := by cases args; simp_all
  obtain ⟨rfl, rfl⟩ := trodVars_none hV
  obtain ⟨t0, w0⟩ := open_strs (hval 0 22 v0 rfl rfl) h0
  have k0 := h0
  have lt0 : ∀ x ∈ p0, x.block < W.heap.size := by obtain ⟨m, hm⟩ := k0; exact DataW.trod_lt m _ _ _ hm
  clear hA0 hval0
  refine (walk t0 v0 W w0).mono fun e W' ⟨he, bel⟩ => ?_
  subst he
  exact ⟨_, rfl, _, _, _, [], _, [], hW', trodAll_mk1 (shut_bool Try.underlying4 _), (trodAll_cons_mk (Below.trod laidOut (by kernel_rfl) (of_decide_eq_true (by kernel_rfl)) k0 bel lt0) trodAll_mk0), rfl, bel.frame _, fun h => by cases h⟩

theorem proved : Rows.FnExactPathTextSaid :=
  OpenClaim.holds_of_wide 4 Try.f4 rfl rfl rfl rfl rfl rfl rfl ⟨rfl, rfl, rfl, rfl, rfl⟩ rfl rfl rfl rfl rfl (by kernel_rfl) Try.func4 (by kernel_rfl)
    (of_decide_eq_true (by kernel_rfl)) (by unfold Func.isWrapper; first | (rw [if_pos (by decide +kernel)]; kernel_rfl) | (rw [if_neg (by decide +kernel)]; exact ⟨rfl, rfl⟩))
    (fun os started H enc _ => lifted os started H enc)
#print axioms proved
end Go.Proofs.Ytnnjhcjalmdmcaa.pathTextL
