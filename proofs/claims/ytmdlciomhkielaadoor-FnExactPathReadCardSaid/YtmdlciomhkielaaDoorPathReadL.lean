/- For every input laws.FnExactPathRead returns true: impl.PathRead answers as its model does, writes nothing that was there, and what it answers is its own. The condition is the card's: the listed variables unicode/utf8.acceptRanges and unicode/utf8.first are as the program's text lays them. -/
import Derived.Test.YtmdlciomhkielaaDoorPrSW
import Derived.Test.YtmdlciomhkielaaDoorPrIW
import Derived.Test.YtmdlciomhkielaaDoorPrDoor
import Derived.Test.YtmdlciomhkielaaDoorHeldTW
import Derived.Test.YtmdlciomhkielaaDoorEqW
import Derived.Test.YtmdlciomhkielaaDoorFrame

namespace Go.Proofs.YtmdlciomhkielaaDoor.pathReadL
open Go.ChangeShapes Go.WideShapes Go.ChangeAt Go.RowKit prDoor
open Go.ChangeMaps (open_string shut_string)

theorem prR_len (t : ByteArray) : (prR t).length ≤ 8001 := by
  unfold prR
  split
  · rename_i h
    have h1 := (pcsB_small (restB t)).2
    have h2 : (restB t).size ≤ t.size := by unfold restB; rw [ByteArray.size_extract]; omega
    omega
  · exact Nat.zero_le _
theorem mark_one (w : World) (base : Nat) (v : Value) (l : List ByteArray) (h : OwnStrs w base v l) (hk : 1 + l.length ≤ 1099511627776) :
    Calls Tryd.prog 16 #[v, .int .i64 1] w fun e w' => e = .returned (.int .i64 ((1 + l.length : Nat) : Int)) ∧ OwnStrs w' base v (marksB 1 l.length) ∧ Only (blkOf v) w w' :=
  markStrs_any w base v l 1 h hk
theorem held_one (w : World) (v : Value) (n : Nat) (h : IsStrs w v (marksB 1 n)) (hk : 1 + n ≤ 1099511627776) :
    Calls Tryd.prog 17 #[v, .int .i64 1] w fun e w' => e = .returned (.int .i64 ((1 + n : Nat) : Int)) ∧ Below w.heap.size w w' :=
  heldStrs_any w v n 1 h hk

set_option maxRecDepth 100000 in
set_option maxHeartbeats 4000000 in
theorem walk (t : ByteArray) (w : World) (ht : t.size ≤ maxLen) (hm : ML w) :
    Calls Tryd.prog 4 #[.string t] w fun e w' => e = .returned (.bool true) ∧ Below w.heap.size w w' := by
  have HT := Lib.hid ht
  have HM := Lib.hid hm
  clear hm
  by_cases hsz : 1048576 < t.size
  · have h1 : (1048576 : Int) < (t.size : Int) := by omega
    clear ht hsz
    go_enter Tryd.func4, Tryd.ntmps4
    go_wp2_with fail
    go_ret
    exact ⟨rfl, Below.refl _ _⟩
  · have h1 : (t.size : Int) ≤ 1048576 := by omega
    obtain ⟨r, hr⟩ : ∃ r, prR t = r := ⟨_, rfl⟩
    have HR := Lib.hid hr
    have hl := prR_len t
    rw [hr] at hl
    have HK : Hid (1 + r.length ≤ 1099511627776) := by show _ ≤ _; omega
    obtain ⟨m, hm⟩ : ∃ m : Nat, 1 + r.length = m := ⟨_, rfl⟩
    have HMM := Lib.hid hm
    have zm : ¬ (m : Int) < 0 := by omega
    clear ht hsz hr hl hm
    go_enter Tryd.func4, Tryd.ntmps4
    go_wp2_with fail
    refine (specPathRead_is t r HR.out w HT.out).mono ?_
    rintro e w1 ⟨v0, rfl, ho, hb⟩
    obtain ⟨p0, n0, m0, rfl⟩ := OwnStrs.slice ho
    have G1 := Lib.hid ho
    have NG := Lib.hid (fun g hg => (blkOf_own ho.2 g hg).2)
    have B1 := Lib.hid hb
    clear ho hb
    go_wp2_with fail
    refine (implPathRead_is t r HR.out w1 HT.out (HM.out.keep (Keeps.of_below B1.out))).mono ?_
    rintro e w2 ⟨p1, n1, m1, rfl, ho, hb⟩
    have Y2 := Lib.hid ho
    have NY := Lib.hid (fun g hg => (blkOf_own ho.2 g hg).1)
    have G2 := Lib.hid (OwnStrs.block G1.out hb)
    have B2 := Lib.hid (B1.out.trans (hb.mono B1.out.size))
    clear ho hb
    go_wp2_with fail
    refine (eqStrs_same _ _ r _ Y2.out.is G2.out.is).mono ?_
    rintro e w3 ⟨rfl, hb⟩
    have Y3 := Lib.hid (OwnStrs.block Y2.out hb)
    have G3 := Lib.hid (OwnStrs.block G2.out hb)
    have B3 := Lib.hid (B2.out.trans (hb.mono B2.out.size))
    clear hb
    go_wp2_with fail
    refine (mark_one _ _ _ r Y3.out HK.out).mono ?_
    rintro e w4 ⟨rfl, ho, hy⟩
    rw [HMM.out]
    have H4 := Lib.hid ho.is
    have G4 : Hid (OwnStrs w4 w.heap.size (.slice p0 n0 m0) r) := ⟨G3.out.1, own_block G3.out.2 fun g hg => hy.block g (blkOf_own G3.out.2 g hg).2 fun hf => by have q1 := NY.out g hf; have q2 := NG.out g hg; omega⟩
    have B4 := Lib.hid (B3.out.trans (hy.below B3.out.size fun g hg => by have q1 := NY.out g hg; have z1 := B1.out.size; omega))
    clear ho hy
    go_wp2_with fail
    refine (held_one _ _ _ H4.out HK.out).mono ?_
    rintro e w5 ⟨rfl, hb⟩
    rw [HMM.out]
    have H5 := Lib.hid (H4.out.keep (Keeps.of_below hb))
    have G5 := Lib.hid (OwnStrs.block G4.out hb)
    have B5 := Lib.hid (B4.out.trans (hb.mono B4.out.size))
    clear hb
    go_wp2_with fail
    refine (implPathRead_is t r HR.out w5 HT.out (HM.out.keep (Keeps.of_below B5.out))).mono ?_
    rintro e w6 ⟨p2, n2, m2, rfl, ho, hb⟩
    have Z6 := Lib.hid ho
    have H6 := Lib.hid (H5.out.keep (Keeps.of_below hb))
    have G6 := Lib.hid (OwnStrs.block G5.out hb)
    have B6 := Lib.hid (B5.out.trans (hb.mono B5.out.size))
    clear ho hb
    go_wp2_with fail
    refine (eqStrs_same _ _ r _ Z6.out.is G6.out.is).mono ?_
    rintro e w7 ⟨rfl, hb⟩
    have H7 := Lib.hid (H6.out.keep (Keeps.of_below hb))
    have B7 := Lib.hid (B6.out.trans (hb.mono B6.out.size))
    clear hb
    go_wp2_with fail
    refine (held_one _ _ _ H7.out HK.out).mono ?_
    rintro e w8 ⟨rfl, hb⟩
    rw [HMM.out]
    have B8 := Lib.hid (B7.out.trans (hb.mono B7.out.size))
    clear hb
    go_wp2_with fail
    go_ret
    exact ⟨rfl, B8.out⟩

set_option maxRecDepth 100000 in
theorem lifted (os : Os) (started : os.Started) (H : Type) (enc : TypeId × Value → H) :
    ReturnsInHanded {} Tryd.checked os 4 .any (fun w args => (Rows.fnExactPathReadSpec.pre enc Tryd.prog Tryd.f4 [] false w args ∧ laidMetH Tryd.prog Rows.fnExactPathReadRow.laid w) ∧ sizedMet enc Tryd.prog Tryd.f4 (OpenSpec.ofChange Rows.fnExactPathReadSpec) false w args)
      (Rows.fnExactPathReadSpec.post enc Tryd.prog Tryd.f4 false true false false) := by
  refine prDoor.returns_and_shaped (C := Tryd.checked) (X := fun w _ => laidMetH Tryd.prog Rows.fnExactPathReadRow.laid w) (fun _ _ _ hh h => h.of_heap hh) own started (by kernel_rfl) Tryd.func4
    (ChangeSpec.witness_at (enc := enc) (C := Tryd.checked) (os := os) (X := fun w _ => laidMetH Tryd.prog Rows.fnExactPathReadRow.laid w) false (laidWorld os) #[.string ⟨#[]⟩] 8 rfl (by kernel_rfl) (by kernel_rfl) (by kernel_rfl) (by kernel_rfl) (by kernel_rfl) (laidWorld_met os _)) ?_
  intro W base args ds gs before hval0 hW hcnd _ hL hsh _
  have hval : ∀ (j : Nat) t v, Tryd.f4.params[j]? = some t → args[j]? = some v → Value.okWide Tryd.prog W .any base t v := hval0
  have hW' := hW
  obtain ⟨p, q, hA0, hV0, rfl, hfz, hnd⟩ := hW
  have hV : DataW.TrodVars enc Tryd.prog W (fun _ => true) [] gs q := hV0
  have hA : DataW.TrodAll enc Tryd.prog W 0 (fun _ => true) true Tryd.f4.params.toList args.toList ds p := hA0
  rw [Tryd.params4] at hA hval
  obtain ⟨v0, vs0, d0, ds0, p0, q0, hargs, rfl, rfl, h0, r0⟩ := trodAll_cons hA
  obtain ⟨rfl, rfl, rfl⟩ := trodAll_nil r0
  obtain rfl : args = #[v0] := by cases args; simp_all
  have hg := ml_of_shaped hsh
  obtain ⟨rfl, rfl⟩ : gs = [] ∧ q = [] := by
    cases gs with
    | nil => exact ⟨rfl, hV⟩
    | cons g r => exact absurd hV (by intro h; cases h)
  obtain ⟨a0, rfl, rfl, rfl, w0⟩ := open_string Tryd.underlying9 (hval 0 9 v0 rfl rfl) h0
  clear hA0 hval0
  simp only [List.append_nil] at hW'
  refine (walk a0 W w0 hg).mono fun e W' ⟨he, bel⟩ => ?_
  subst he
  exact ⟨_, rfl, _, _, _, [], [], [], hW', trodAll_mk1 (shut_bool Tryd.underlying4 _), (trodAll_cons_mk (shut_string Tryd.underlying9 w0) trodAll_mk0), rfl, bel.frame _, fun h => by cases h⟩

theorem row_holds : Rows.FnExactPathReadSaid :=
  OpenClaim.holds_of_wide 4 Tryd.f4 rfl rfl rfl rfl rfl rfl rfl ⟨rfl, rfl, rfl, rfl, rfl⟩ rfl rfl rfl rfl rfl (by kernel_rfl) Tryd.func4 (by kernel_rfl)
    (of_decide_eq_true (by kernel_rfl)) (by unfold Func.isWrapper; first | (rw [if_pos (by decide +kernel)]; kernel_rfl) | (rw [if_neg (by decide +kernel)]; exact ⟨rfl, rfl⟩))
    (fun os started H enc _ => lifted os started H enc)

/-- The card: the listed variable is tied to the program's text. -/
theorem proved : Rows.FnExactPathReadCardSaid :=
  Claim7.holds_tied_plain_at .later [] [.data, .pinned] true Rows.fnExactPathReadCard.stood.harness true
    row_holds (fun _ h => by cases h) (by kernel_rfl) (fun _ h => by cases h) fnExactPathRead_row_tie rfl ⟨rfl, rfl⟩ (by kernel_rfl) rfl
    (fun f fn hf hfn => by
      obtain rfl : f = 4 := Option.some.inj ((show Tryd.prog.funcNamed "loop.example/g00848/laws.FnExactPathRead" = some 4 by kernel_rfl).symm.trans hf) |>.symm
      obtain rfl : fn = Tryd.f4 := (Option.some.inj (Tryd.func4.symm.trans hfn)).symm
      exact ⟨by kernel_rfl, fun j t ht => by
        rw [Tryd.params4] at ht
        have hm : t ∈ [9] := by have := Array.mem_of_getElem? ht; simpa using this
        simp only [List.mem_cons, List.not_mem_nil, or_false] at hm
        rcases hm with rfl
        · exact (show Tryd.prog.wantsStandIn 9 = false by kernel_rfl)⟩)
    (by kernel_rfl)
#print axioms proved
end Go.Proofs.YtmdlciomhkielaaDoor.pathReadL
