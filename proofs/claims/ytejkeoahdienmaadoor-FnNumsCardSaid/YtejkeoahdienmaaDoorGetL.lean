/- For every input laws.FnExactGetNum returns true: impl.GetNum answers as its model does, every field, and writes nothing that was there. No condition; the listed variable errors.errorType is tied to the program's text. -/
import Derived.Test.YtejkeoahdienmaaDoorGetS
import Derived.Test.YtejkeoahdienmaaDoorDoor
namespace Go.Proofs.YtejkeoahdienmaaDoor.getL
open Go.ChangeShapes Go.WideShapes Go.ChangeAt Go.RowKit
open Go.ChangeMaps (open_string shut_string)

theorem inI64 {a : Int} (h : (Lit.int .i64 a).wf = true) : InI64 a := by
  simp [Lit.wf, IntKind.min, IntKind.max, IntKind.signed, IntKind.bits] at h
  unfold InI64; omega

/-- What GetNum tells. -/
def getAll (s : ByteArray) (p : Int) : Int × Int × Int := if 8000 < s.size then (0, 0, 2) else getRes s p

theorem implGet_all (s : ByteArray) (p : Int) (w : World) (hs : s.size ≤ maxLen) (hg : HandleAt w) :
    Calls Tryd.prog 9 #[.string s, .int .i64 p] w fun e w' => e = .returned (numV (getAll s p)) ∧ Below w.heap.size w w' := by
  unfold getAll
  by_cases h : 8000 < s.size
  · rw [if_pos h]; exact getNum_long s p w hs h
  · rw [if_neg h]
    by_cases hc : (getRes s p).2.2 = 0
    · refine (getNum_good s p w (by omega) hc).mono fun e w' ⟨he, hb⟩ => ⟨?_, hb⟩
      rw [he]; exact numV_is (by rw [← hc])
    · refine (getNum_bad s p _ w (by omega) hg rfl hc).mono fun e w' ⟨he, hb⟩ => ⟨?_, hb⟩
      rw [he]; exact numV_is (res_bad hc)

set_option maxRecDepth 100000 in
theorem specGet_long (s : ByteArray) (p : Int) (w : World) (hs : s.size ≤ maxLen) (h : 8000 < s.size) :
    Calls Tryd.prog 14 #[.string s, .int .i64 p] w fun e w' => e = .returned (numV (0, 0, 2)) ∧ Below w.heap.size w w' := by
  unfold maxLen at hs
  have h1 : (8000 : Int) < s.size := by omega
  go_enter Tryd.func14, Tryd.ntmps14
  go_wp2
  refine bodyPost_ret (v := .agg #[.int .i64 0, .int .i64 0, .int .i64 2]) (by simp [results, Tryd.results14, go_sem]) rfl ⟨rfl, (Below.refl _ _).alloc (Nat.le_refl _) _⟩
set_option maxRecDepth 100000 in
theorem specGet_neg (s : ByteArray) (p : Int) (w : World) (hs : s.size ≤ 8000) (h : p < 0) :
    Calls Tryd.prog 14 #[.string s, .int .i64 p] w fun e w' => e = .returned (numV (0, 0, 1)) ∧ Below w.heap.size w w' := by
  have h1 : (s.size : Int) ≤ 8000 := by omega
  go_enter Tryd.func14, Tryd.ntmps14
  go_wp2
  refine bodyPost_ret (v := .agg #[.int .i64 0, .int .i64 0, .int .i64 1]) (by simp [results, Tryd.results14, go_sem]) rfl ⟨rfl, (Below.refl _ _).alloc (Nat.le_refl _) _⟩

theorem specGet_all (s : ByteArray) (p : Int) (w : World) (hs : s.size ≤ maxLen) (hp : InI64 p) :
    Calls Tryd.prog 14 #[.string s, .int .i64 p] w fun e w' => e = .returned (numV (getAll s p)) ∧ Below w.heap.size w w' := by
  unfold getAll
  by_cases h : 8000 < s.size
  · rw [if_pos h]; exact specGet_long s p w hs h
  · rw [if_neg h]
    unfold getRes
    by_cases h0 : p < 0
    · rw [if_pos h0]; exact specGet_neg s p w (by omega) h0
    · rw [if_neg h0]
      obtain ⟨q, rfl⟩ := Int.eq_ofNat_of_zero_le (show 0 ≤ p by omega)
      exact specGet_any s q w (by omega) (by unfold InI64 at hp; omega)

theorem eq_same (a b c : Int) (w : World) :
    Calls Tryd.prog 15 #[.agg #[.int .i64 a, .int .i64 b, .int .i64 c], .agg #[.int .i64 a, .int .i64 b, .int .i64 c]] w fun e w' => e = .returned (.bool true) ∧ Below w.heap.size w w' := by
  go_enter Tryd.func15, Tryd.ntmps15
  go_wp2
  go_ret
  exact ⟨rfl, ((Below.refl _ _).alloc (Nat.le_refl _) _).alloc (by simp) _⟩

set_option maxRecDepth 100000 in
set_option maxHeartbeats 400000 in
theorem walk (s : ByteArray) (p : Int) (w : World) (hs : s.size ≤ maxLen) (hp : (Lit.int .i64 p).wf = true) (hg : HandleAt w) :
    Calls Tryd.prog 4 #[.string s, .int .i64 p] w fun e w' => e = .returned (.bool true) ∧ Below w.heap.size w w' := by
  obtain ⟨a, b, c, h1, h2⟩ : ∃ a b c : Int, (∀ w, HandleAt w → Calls Tryd.prog 9 #[.string s, .int .i64 p] w fun e w' => e = .returned (.agg #[.int .i64 a, .int .i64 b, .int .i64 c]) ∧ Below w.heap.size w w') ∧
      ∀ w, Calls Tryd.prog 14 #[.string s, .int .i64 p] w fun e w' => e = .returned (.agg #[.int .i64 a, .int .i64 b, .int .i64 c]) ∧ Below w.heap.size w w' :=
    ⟨_, _, _, fun w hg => implGet_all s p w hs hg, fun w => specGet_all s p w hs (inI64 hp)⟩
  have H1 := Lib.hid h1
  have H2 := Lib.hid h2
  have HG := Lib.hid hg
  clear h1 h2 hp hg
  unfold maxLen at hs
  by_cases h1 : s.size > 1048576
  · have h1 : (1048576 : Int) < s.size := by omega
    go_enter Tryd.func4, Tryd.ntmps4
    go_wp2_with fail
    go_ret
    exact ⟨rfl, Below.refl _ _⟩
  · have h1 : (s.size : Int) ≤ 1048576 := by omega
    go_enter Tryd.func4, Tryd.ntmps4
    go_wp2_with fail
    refine (H2.out _).mono ?_
    rintro e w1 ⟨rfl, hb1⟩
    go_wp2_with fail
    refine (H1.out _ ((HG.out.below hb1 HG.out.pos).alloc _)).mono ?_
    rintro e w2 ⟨rfl, hb2⟩
    obtain ⟨hc, hf⟩ := bcell hb2
    have hz : w1.heap.size < w2.heap.size := by have := hb2.size; simp at this; omega
    go_wp2_with fail
    refine (eq_same a b c _).mono ?_
    rintro e w3 ⟨rfl, hb3⟩
    go_wp2_with fail
    go_ret
    exact ⟨rfl, below_next (below_next hb1 hb2) hb3⟩

set_option maxRecDepth 100000 in
theorem lifted (os : Os) (started : os.Started) (H : Type) (enc : TypeId × Value → H) :
    ReturnsInHanded {} Tryd.checked os 4 .any (fun w args => (Rows.fnExactGetNumSpec.pre enc Tryd.prog Tryd.f4 [] false w args ∧ laidMetH Tryd.prog Rows.fnExactGetNumRow.laid w) ∧ sizedMet enc Tryd.prog Tryd.f4 (OpenSpec.ofChange Rows.fnExactGetNumSpec) false w args)
      (Rows.fnExactGetNumSpec.post enc Tryd.prog Tryd.f4 false true false false) := by
  refine returnsInHanded_of_change_and (C := Tryd.checked) (X := fun w _ => laidMetH Tryd.prog Rows.fnExactGetNumRow.laid w) (fun _ _ _ hh h => h.of_heap hh) own started (by kernel_rfl) Tryd.func4
    (ChangeSpec.witness_at (enc := enc) (C := Tryd.checked) (os := os) (X := fun w _ => laidMetH Tryd.prog Rows.fnExactGetNumRow.laid w) false (laidWorld os) #[.string ⟨#[]⟩, .int .i64 0] 8 rfl (by kernel_rfl) (by kernel_rfl) (by kernel_rfl) (by kernel_rfl) (by kernel_rfl) (laidWorld_met os _)) ?_
  intro W base args ds gs before hval0 hW hcnd _ hL _
  have hval : ∀ (j : Nat) t v, Tryd.f4.params[j]? = some t → args[j]? = some v → Value.okWide Tryd.prog W .any base t v := hval0
  have hW' := hW
  obtain ⟨p, q, hA0, hV0, rfl, hfz, hnd⟩ := hW
  have hV : DataW.TrodVars enc Tryd.prog W (fun _ => true) [] gs q := hV0
  have hA : DataW.TrodAll enc Tryd.prog W 0 (fun _ => true) true Tryd.f4.params.toList args.toList ds p := hA0
  rw [Tryd.params4] at hA hval
  obtain ⟨v0, vs0, d0, ds0, p0, q0, hargs, rfl, rfl, h0, r0⟩ := trodAll_cons hA
  obtain ⟨v1, vs1, d1, ds1, p1, q1, rfl, rfl, rfl, h1, r1⟩ := trodAll_cons r0
  obtain ⟨rfl, rfl, rfl⟩ := trodAll_nil r1
  obtain rfl : args = #[v0, v1] := by cases args; simp_all
  have hg := handle_of_laid hL
  obtain ⟨rfl, rfl⟩ : gs = [] ∧ q = [] := by
    cases gs with
    | nil => exact ⟨rfl, hV⟩
    | cons g r => exact absurd hV (by intro h; cases h)
  obtain ⟨a0, rfl, rfl, rfl, w0⟩ := open_string Tryd.underlying9 (hval 0 9 v0 rfl rfl) h0
  obtain ⟨a1, rfl, rfl, rfl, w1⟩ := open_int Tryd.underlying2 (hval 1 2 v1 rfl rfl) h1
  clear hA0 hval0
  simp only [List.append_nil] at hW'
  refine (walk a0 a1 W w0 w1 hg).mono fun e W' ⟨he, bel⟩ => ?_
  subst he
  exact ⟨_, rfl, _, _, _, [], [], [], hW', trodAll_mk1 (shut_bool Tryd.underlying4 _), (trodAll_cons_mk (shut_string Tryd.underlying9 w0) (trodAll_cons_mk (shut_int Tryd.underlying2 w1) trodAll_mk0)), rfl, bel.frame _, fun h => by cases h⟩

theorem row_holds : Rows.FnExactGetNumSaid :=
  OpenClaim.holds_of_wide 4 Tryd.f4 rfl rfl rfl rfl rfl rfl rfl ⟨rfl, rfl, rfl, rfl, rfl⟩ rfl rfl rfl rfl rfl (by kernel_rfl) Tryd.func4 (by kernel_rfl)
    (of_decide_eq_true (by kernel_rfl)) (by unfold Func.isWrapper; first | (rw [if_pos (by decide +kernel)]; kernel_rfl) | (rw [if_neg (by decide +kernel)]; exact ⟨rfl, rfl⟩))
    (fun os started H enc _ => lifted os started H enc)

/-- The card: the listed variable is tied to the program's text. -/
theorem proved : Rows.FnExactGetNumCardSaid :=
  Claim7.holds_tied_plain_at .later [] [.handle] true Rows.fnExactGetNumCard.stood.harness true
    row_holds (fun _ h => by cases h) (by kernel_rfl) (fun _ h => by cases h) fnExactGetNum_row_tie rfl ⟨rfl, rfl⟩ (by kernel_rfl) rfl
    (fun f fn hf hfn => by
      obtain rfl : f = 4 := Option.some.inj ((show Tryd.prog.funcNamed "loop.example/g00848/laws.FnExactGetNum" = some 4 by kernel_rfl).symm.trans hf) |>.symm
      obtain rfl : fn = Tryd.f4 := (Option.some.inj (Tryd.func4.symm.trans hfn)).symm
      exact ⟨by kernel_rfl, fun j t ht => by
        rw [Tryd.params4] at ht
        have hm : t ∈ [9, 2] := by have := Array.mem_of_getElem? ht; simpa using this
        simp only [List.mem_cons, List.not_mem_nil, or_false] at hm
        rcases hm with rfl | rfl
        · exact (show Tryd.prog.wantsStandIn 9 = false by kernel_rfl)
        · exact (show Tryd.prog.wantsStandIn 2 = false by kernel_rfl)⟩)
    (by kernel_rfl)
#print axioms proved
end Go.Proofs.YtejkeoahdienmaaDoor.getL
