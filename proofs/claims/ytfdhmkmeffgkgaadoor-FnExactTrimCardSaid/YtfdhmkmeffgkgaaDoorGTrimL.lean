/- For every input laws.FnExactTrim returns true: impl.Trim answers as its model does, writes nothing that was there, and what it answers is its own. The condition is the card's: the listed variable impl.editKinds is tied to the program's text. -/
import Derived.Test.YtfdhmkmeffgkgaaDoorGTiW
import Derived.Test.YtfdhmkmeffgkgaaDoorGTsA
import Derived.Test.YtfdhmkmeffgkgaaDoorGMkE
import Derived.Test.YtfdhmkmeffgkgaaDoorGEdDoor
import Derived.Test.YtfdhmkmeffgkgaaDoorGSzE
import Derived.Test.YtfdhmkmeffgkgaaDoorGEqE
import Derived.Test.YtfdhmkmeffgkgaaDoorGOA
import Derived.Test.YtfdhmkmeffgkgaaDoorGFrame
namespace Go.Proofs.YtfdhmkmeffgkgaaDoor.trimL
open Go.ChangeShapes Go.WideShapes Go.ChangeAt Go.RowKit

theorem mc_le : ∀ t : Sh, t.mc ≤ 1 + t.sz := by
  refine Sh.ind fun k sy na su ih => ?_
  have key : ∀ l : List Sh, (∀ x ∈ l, x.mc ≤ 1 + x.sz) → Sh.mcs l ≤ l.length + Sh.szs l := by
    intro l
    induction l with
    | nil => intro _; simp [Sh.mcs]
    | cons x l ihl =>
      intro h
      have h1 := h x (by simp)
      have h2 := ihl fun y hy => h y (by simp [hy])
      simp only [Sh.mcs, Sh.szs, List.length_cons]; omega
  have := key su ih
  simp only [Sh.mc, Sh.sz, strsSz]; omega
theorem mces_le : ∀ l : List Ed, Ed.mces l ≤ 6 * l.length + Ed.szs l
  | [] => by simp [Ed.mces]
  | x :: l => by
    have h1 := mces_le l
    have h2 := mc_le x.sh
    have h3 := mc_le x.ws
    have h4 : Ed.szs (x :: l) = x.sz + Ed.szs l := by simp [Ed.szs]
    rw [h4]
    simp only [Ed.mces, Ed.mce, List.length_cons]
    unfold Ed.sz strsSz
    omega
theorem mces_sub {l r : List Ed} (h : r.Sublist l) : Ed.mces r ≤ Ed.mces l := by
  induction h with
  | slnil => exact Nat.le_refl _
  | cons a _ ih => simp only [Ed.mces]; omega
  | cons_cons a _ ih => simp only [Ed.mces]; omega
theorem RowE.is {base : Nat} {wr : World} {l : List Ed} {p : Option Addr} {n cap : Nat} {cs : List Value} {F : List Nat} (h : RowE base wr l p n cap cs F) : IsEds wr (.slice p n cap) l := by
  obtain ⟨rfl, h1, h2, _⟩ := h
  exact h2.is h1
theorem row_of {W wr : World} {l : List Ed} {p : Option Addr} {n cap : Nat} {cs : List Value} {F : List Nat} (h : EdsInv W wr l p n cap cs F) : RowE W.heap.size wr l p n cap cs F := ⟨h.1, h.2.1, h.2.2.1, h.2.2.2.1⟩
theorem row_tos {w w' : World} {l : List Ed} {cs : List Value} {F : List Nat} (hr : w'.ownsRow w.heap.size 33 13 (.slice (some ⟨w.heap.size, 0, none⟩) l.length l.length) l.length cs) (ha : OwnAllE w' (w.heap.size + 1) l cs F) (hn : F.Nodup) : RowE w.heap.size w' l (some ⟨w.heap.size, 0, none⟩) l.length l.length cs F :=
  ⟨rfl, hr, ha.move (Nat.le_succ _) fun _ _ => rfl, by
    simp only [blkOf, List.cons_append, List.nil_append]
    exact List.nodup_cons.2 ⟨fun hm => by have := (ha.lt _ hm).1; omega, hn⟩⟩
theorem mark_row (w : World) (base : Nat) (l : List Ed) (p : Option Addr) (n cap : Nat) (cs : List Value) (F : List Nat) (h : RowE base w l p n cap cs F) (hk : 1 + Ed.mces l ≤ 1099511627776) :
    Calls Tryd.prog 18 #[.slice p n cap, .int .i64 1] w fun e w' => e = .returned (.int .i64 ((1 + Ed.mces l : Nat) : Int)) ∧ IsEds w' (.slice p n cap) (Ed.markeds l 1) ∧ Only (blkOf (.slice p n cap) ++ F) w w' := by
  obtain ⟨rfl, h1, h2, h3⟩ := h
  refine (show Calls Tryd.prog 18 #[.slice p l.length cap, .int .i64 1] w (MarkEdsPost w base (.slice p l.length cap) l F 1) from markEds_any l w base _ cs F 1 h1 h2 h3 hk).mono ?_
  rintro e w' ⟨cs', rfl, g1, g2, g3⟩
  exact ⟨rfl, g2.is (by rw [emarkeds_len]; exact g1), g3⟩
theorem held_row (w : World) (l : List Ed) (v : Value) (h : IsEds w v (Ed.markeds l 1)) (hk : 1 + Ed.mces l ≤ 1099511627776) :
    Calls Tryd.prog 19 #[v, .int .i64 1] w fun e w' => e = .returned (.int .i64 ((1 + Ed.mces l : Nat) : Int)) ∧ Below w.heap.size w w' :=
  heldEds_any l w v 1 h hk

set_option maxRecDepth 100000 in
set_option maxHeartbeats 4000000 in
theorem walk (l : List Ed) (v : Value) (w : World) (h : IsEds w v l) (hek : EkAt w) :
    Calls Tryd.prog 5 #[v] w fun e w' => e = .returned (.bool true) ∧ Below w.heap.size w w' := by
  have HH := Lib.hid h
  have EK := Lib.hid hek
  obtain ⟨a, cap, rfl, h3, h4, _⟩ := h
  clear hek
  by_cases hsz : l.length + Ed.szs l ≤ 1048576
  · have E1 := Lib.hid (leftOf_le (left := 1048576) hsz)
    obtain ⟨q, hq⟩ : ∃ q, q = 1048576 - (l.length + Ed.szs l) := ⟨_, rfl⟩
    rw [← hq] at E1
    have z1 : 0 ≤ (q : Int) := by omega
    have HSZ := Lib.hid hsz
    obtain ⟨r, hr⟩ := trimOf_any l
    have HR := Lib.hid hr
    have HMT : Hid (1 + Ed.mces l ≤ 1099511627776) := by show _ ≤ _; have := mces_le l; omega
    have HMC : Hid (1 + Ed.mces r ≤ 1099511627776) := by show _ ≤ _; have := mces_le l; have := mces_sub hr.sub; omega
    obtain ⟨m, hm⟩ : ∃ m : Nat, 1 + Ed.mces r = m := ⟨_, rfl⟩
    have HM := Lib.hid hm
    have zm : ¬ (m : Int) < 0 := by omega
    obtain ⟨mt, hmt⟩ : ∃ mt : Nat, 1 + Ed.mces l = mt := ⟨_, rfl⟩
    have HT := Lib.hid hmt
    have zt : ¬ (mt : Int) < 0 := by omega
    clear hq hsz hr hm hmt
    go_enter Tryd.func5, Tryd.ntmps5
    go_wp2_with fail
    refine (szEds_any _ l 1048576 _ HH.out (Nat.le_refl _)).mono ?_
    rintro e w1 ⟨rfl, hb⟩
    rw [E1.out]
    have B1 := Lib.hid (hb)
    have S1 := Lib.hid hb.size
    clear hb
    go_wp2_with fail
    refine (toEds_any _ l _ (HH.out.keep (Keeps.of_below B1.out)) HSZ.out).mono ?_
    rintro e w2 ⟨cs2, F2, rfl, hr, ha, hn, hb, _⟩
    have R2 := Lib.hid (row_tos hr ha hn)
    have B2 := Lib.hid (B1.out.trans (hb.mono B1.out.size))
    have S2 := Lib.hid hb.size
    clear hb hr ha hn
    go_wp2_with fail
    refine (specTrim_is l r HR.out _ _ (RowE.is R2.out)).mono ?_
    rintro e w3 ⟨pg, ng, cg, csg, FG, rfl, hI⟩
    have hb := hI.2.2.2.2
    have B3 := Lib.hid (B2.out.trans (hb.mono B2.out.size))
    have S3 := Lib.hid hb.size
    have G3 := Lib.hid (row_of hI)
    have NG := Lib.hid (fun g hg => (row_of hI).lt g hg)
    clear hb hI
    go_wp2_with fail
    refine (toEds_any _ l _ (HH.out.keep (Keeps.of_below B3.out)) HSZ.out).mono ?_
    rintro e w4 ⟨cs4, F4, rfl, hr, ha, hn, hb, _⟩
    have R4 := Lib.hid (row_tos hr ha hn)
    have G4 := Lib.hid (G3.out.below hb)
    have B4 := Lib.hid (B3.out.trans (hb.mono B3.out.size))
    have S4 := Lib.hid hb.size
    clear hb hr ha hn
    have NX := Lib.hid (fun g hg => R4.out.lt g hg)
    go_wp2_with fail
    refine (implTrim_is l r HR.out _ _ (RowE.is R4.out) (EK.out.keep (Keeps.of_below B4.out))).mono ?_
    rintro e w5 ⟨py, ny, cy, csy, FY, rfl, hI⟩
    have hb := hI.2.2.2.2
    have G5 := Lib.hid (G4.out.below hb)
    have X5 := Lib.hid (R4.out.below hb)
    have B5 := Lib.hid (B4.out.trans (hb.mono B4.out.size))
    have S5 := Lib.hid hb.size
    have Y5 := Lib.hid (row_of hI)
    have NY := Lib.hid (fun g hg => (row_of hI).lt g hg)
    clear hb hI
    go_wp2_with fail
    refine (eqEds_same _ _ r _ (RowE.is Y5.out) (RowE.is G5.out)).mono ?_
    rintro e w6 ⟨rfl, hb⟩
    have G6 := Lib.hid (G5.out.below hb)
    have X6 := Lib.hid (X5.out.below hb)
    have Y6 := Lib.hid (Y5.out.below hb)
    have B6 := Lib.hid (B5.out.trans (hb.mono B5.out.size))
    have S6 := Lib.hid hb.size
    clear hb
    go_wp2_with fail
    refine (toEds_any _ l _ (HH.out.keep (Keeps.of_below B6.out)) HSZ.out).mono ?_
    rintro e w7 ⟨cs7, F7, rfl, hr, ha, hn, hb, _⟩
    have R7 := Lib.hid (row_tos hr ha hn)
    have G7 := Lib.hid (G6.out.below hb)
    have X7 := Lib.hid (X6.out.below hb)
    have Y7 := Lib.hid (Y6.out.below hb)
    have B7 := Lib.hid (B6.out.trans (hb.mono B6.out.size))
    have S7 := Lib.hid hb.size
    clear hb hr ha hn
    go_wp2_with fail
    refine (eqEds_same _ _ l _ (RowE.is X7.out) (RowE.is R7.out)).mono ?_
    rintro e w8 ⟨rfl, hb⟩
    have G8 := Lib.hid (G7.out.below hb)
    have X8 := Lib.hid (X7.out.below hb)
    have Y8 := Lib.hid (Y7.out.below hb)
    have B8 := Lib.hid (B7.out.trans (hb.mono B7.out.size))
    have S8 := Lib.hid hb.size
    clear hb
    go_wp2_with fail
    refine (mark_row _ _ l _ _ _ _ _ X8.out HMT.out).mono ?_
    rintro e w9 ⟨rfl, hh, hy⟩
    rw [HT.out]
    have G9 := Lib.hid (G8.out.move fun g hg => hy.block g (G8.out.lt g hg).2 fun hm => by have q1 := NX.out _ hm; have q2 := NG.out _ hg; omega)
    have Y9 := Lib.hid (Y8.out.move fun g hg => hy.block g (Y8.out.lt g hg).2 fun hm => by have q1 := NX.out _ hm; have q2 := NY.out _ hg; omega)
    have B9 := Lib.hid (B8.out.trans (hy.below B8.out.size fun g hg => by have q1 := NX.out _ hg; have z1 := B2.out.size; have z2 := B3.out.size; have z3 := B4.out.size; omega))
    clear hh hy
    go_wp2_with fail
    refine (eqEds_same _ _ r _ (RowE.is Y9.out) (RowE.is G9.out)).mono ?_
    rintro e w10 ⟨rfl, hb⟩
    have G10 := Lib.hid (G9.out.below hb)
    have Y10 := Lib.hid (Y9.out.below hb)
    have B10 := Lib.hid (B9.out.trans (hb.mono B9.out.size))
    have S10 := Lib.hid hb.size
    clear hb
    go_wp2_with fail
    refine (mark_row _ _ r _ _ _ _ _ Y10.out HMC.out).mono ?_
    rintro e w11 ⟨rfl, hh, hy⟩
    rw [HM.out]
    have G11 := Lib.hid (G10.out.move fun g hg => hy.block g (G10.out.lt g hg).2 fun hm => by have q1 := NY.out _ hm; have q2 := NG.out _ hg; omega)
    have B11 := Lib.hid (B10.out.trans (hy.below B10.out.size fun g hg => by have q1 := NY.out _ hg; have z1 := B2.out.size; have z2 := B3.out.size; have z3 := B4.out.size; omega))
    have H11 := Lib.hid hh
    clear hh hy
    go_wp2_with fail
    refine (held_row _ r _ H11.out HMC.out).mono ?_
    rintro e w12 ⟨rfl, hb⟩
    rw [HM.out]
    have G12 := Lib.hid (G11.out.below hb)
    have H12 := Lib.hid (H11.out.keep (Keeps.of_below hb))
    have B12 := Lib.hid (B11.out.trans (hb.mono B11.out.size))
    have S12 := Lib.hid hb.size
    clear hb
    go_wp2_with fail
    refine (toEds_any _ l _ (HH.out.keep (Keeps.of_below B12.out)) HSZ.out).mono ?_
    rintro e w13 ⟨cs13, F13, rfl, hr, ha, hn, hb, _⟩
    have R13 := Lib.hid (row_tos hr ha hn)
    have G13 := Lib.hid (G12.out.below hb)
    have H13 := Lib.hid (H12.out.keep (Keeps.of_below hb))
    have B13 := Lib.hid (B12.out.trans (hb.mono B12.out.size))
    have S13 := Lib.hid hb.size
    clear hb hr ha hn
    go_wp2_with fail
    refine (implTrim_is l r HR.out _ _ (RowE.is R13.out) (EK.out.keep (Keeps.of_below B13.out))).mono ?_
    rintro e w14 ⟨pz, nz, cz, csz, FZ, rfl, hI⟩
    have hb := hI.2.2.2.2
    have G14 := Lib.hid (G13.out.below hb)
    have H14 := Lib.hid (H13.out.keep (Keeps.of_below hb))
    have B14 := Lib.hid (B13.out.trans (hb.mono B13.out.size))
    have S14 := Lib.hid hb.size
    have Z14 := Lib.hid (row_of hI)
    clear hb hI
    go_wp2_with fail
    refine (eqEds_same _ _ r _ (RowE.is Z14.out) (RowE.is G14.out)).mono ?_
    rintro e w15 ⟨rfl, hb⟩
    have G15 := Lib.hid (G14.out.below hb)
    have H15 := Lib.hid (H14.out.keep (Keeps.of_below hb))
    have B15 := Lib.hid (B14.out.trans (hb.mono B14.out.size))
    have S15 := Lib.hid hb.size
    clear hb
    go_wp2_with fail
    refine (held_row _ r _ H15.out HMC.out).mono ?_
    rintro e w16 ⟨rfl, hb⟩
    rw [HM.out]
    have G16 := Lib.hid (G15.out.below hb)
    have H16 := Lib.hid (H15.out.keep (Keeps.of_below hb))
    have B16 := Lib.hid (B15.out.trans (hb.mono B15.out.size))
    have S16 := Lib.hid hb.size
    clear hb
    go_wp2_with fail
    go_ret
    exact ⟨rfl, B16.out⟩
  · have E1 := Lib.hid (leftOf_lt (left := 1048576) (n := l.length + Ed.szs l) (by omega))
    clear hsz
    go_enter Tryd.func5, Tryd.ntmps5
    go_wp2_with fail
    refine (szEds_any _ l 1048576 _ HH.out (Nat.le_refl _)).mono ?_
    rintro e w1 ⟨rfl, hb⟩
    rw [E1.out]
    have B1 := Lib.hid hb
    clear hb
    go_wp2_with fail
    go_ret
    exact ⟨rfl, B1.out⟩

set_option maxRecDepth 100000 in
theorem lifted (os : Os) (started : os.Started) (H : Type) (enc : TypeId × Value → H) :
    ReturnsInHanded {} Tryd.checked os 5 .any (fun w args => (Rows.fnExactTrimSpec.pre enc Tryd.prog Tryd.f5 [] false w args ∧ laidMetH Tryd.prog Rows.fnExactTrimRow.laid w) ∧ sizedMet enc Tryd.prog Tryd.f5 (OpenSpec.ofChange Rows.fnExactTrimSpec) false w args)
      (Rows.fnExactTrimSpec.post enc Tryd.prog Tryd.f5 false true false false) := by
  refine returnsInHanded_of_change_and (C := Tryd.checked) (X := fun w _ => laidMetH Tryd.prog Rows.fnExactTrimRow.laid w) (fun _ _ _ hh h => h.of_heap hh) own started (by kernel_rfl) Tryd.func5
    (ChangeSpec.witness_at (enc := enc) (C := Tryd.checked) (os := os) (X := fun w _ => laidMetH Tryd.prog Rows.fnExactTrimRow.laid w) false (laidWorld os) #[.slice none 0 0] 8 rfl (by kernel_rfl) (by kernel_rfl) (by kernel_rfl) (by kernel_rfl) (by kernel_rfl) (laidWorld_met os _)) ?_
  intro W base args ds gs before hval0 hW hcnd _ hL _
  have hval : ∀ (j : Nat) t v, Tryd.f5.params[j]? = some t → args[j]? = some v → Value.okWide Tryd.prog W .any base t v := hval0
  have hW' := hW
  obtain ⟨p, q, hA0, hV0, rfl, hfz, hnd⟩ := hW
  have hV : DataW.TrodVars enc Tryd.prog W (fun _ => true) Rows.fnExactTrimSpec.vars gs q := hV0
  have hA : DataW.TrodAll enc Tryd.prog W 0 (fun _ => true) true Tryd.f5.params.toList args.toList ds p := hA0
  rw [Tryd.params5] at hA hval
  obtain ⟨v0, vs0, d0, ds0, p0, q0, hargs, rfl, rfl, h0, r0⟩ := trodAll_cons hA
  obtain ⟨rfl, rfl, rfl⟩ := trodAll_nil r0
  obtain rfl : args = #[v0] := by cases args; simp_all
  have hg := kw_of_laid hL
  obtain ⟨g9, t9, cs9, fuel9, d9, p9, rfl, _, _, _, _, _⟩ := trodVars_one hV
  obtain ⟨t0, w0⟩ := open_eds (hval 0 39 v0 rfl rfl) h0
  have k0 := h0
  have lt0 : ∀ x ∈ p0, x.block < W.heap.size := by obtain ⟨m, hm⟩ := k0; exact DataW.trod_lt m _ _ _ hm
  clear hA0 hval0
  refine (walk t0 v0 W w0 hg).mono fun e W' ⟨he, bel⟩ => ?_
  subst he
  exact ⟨_, rfl, _, _, _, [], _, _, hW', trodAll_mk1 (shut_bool Tryd.underlying4 _), (trodAll_cons_mk (Below.trod laidOut (by kernel_rfl) (of_decide_eq_true (by kernel_rfl)) k0 bel lt0) trodAll_mk0), RowKit.Below.trodVars laidOut bel (by kernel_rfl) hV, bel.frame _, fun h => by cases h⟩

theorem row_holds : Rows.FnExactTrimSaid :=
  OpenClaim.holds_of_wide 5 Tryd.f5 rfl rfl rfl rfl rfl rfl rfl ⟨rfl, rfl, rfl, rfl, rfl⟩ rfl rfl rfl rfl rfl (by kernel_rfl) Tryd.func5 (by kernel_rfl)
    (of_decide_eq_true (by kernel_rfl)) (by unfold Func.isWrapper; first | (rw [if_pos (by decide +kernel)]; kernel_rfl) | (rw [if_neg (by decide +kernel)]; exact ⟨rfl, rfl⟩))
    (fun os started H enc _ => lifted os started H enc)

/-- The card: the listed variable is tied to the program's text. -/
theorem proved : Rows.FnExactTrimCardSaid :=
  Claim7.holds_tied_plain_at .later [] [.data] true Rows.fnExactTrimCard.stood.harness false
    row_holds (fun _ h => by cases h) (by kernel_rfl) (fun _ h => by cases h) fnExactTrim_row_tie rfl ⟨rfl, rfl⟩ (by kernel_rfl) rfl
    (fun f fn hf hfn => by
      obtain rfl : f = 5 := Option.some.inj ((show Tryd.prog.funcNamed "loop.example/g00848/laws.FnExactTrim" = some 5 by kernel_rfl).symm.trans hf) |>.symm
      obtain rfl : fn = Tryd.f5 := (Option.some.inj (Tryd.func5.symm.trans hfn)).symm
      exact ⟨by kernel_rfl, fun j t ht => by
        rw [Tryd.params5] at ht
        have hm : t ∈ [39] := by have := Array.mem_of_getElem? ht; simpa using this
        simp only [List.mem_cons, List.not_mem_nil, or_false] at hm
        rcases hm with rfl
        · exact (show Tryd.prog.wantsStandIn 39 = false by kernel_rfl)⟩)
    (by kernel_rfl)
#print axioms proved
end Go.Proofs.YtfdhmkmeffgkgaaDoor.trimL
