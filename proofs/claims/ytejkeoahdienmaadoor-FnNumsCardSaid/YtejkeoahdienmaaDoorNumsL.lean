/- For every input laws.FnNums returns true: a drawn number, or text, is got back from its bytes, with the place behind it; of bytes that end too early nothing is got. No condition; the listed variable errors.errorType is tied to the program's text. -/
import Derived.Test.YtejkeoahdienmaaDoorGetTL
import Derived.Test.YtejkeoahdienmaaDoorTextW
import Derived.Test.YtejkeoahdienmaaDoorNumsP
import Derived.Test.YtejkeoahdienmaaDoorAnyW
import Derived.Test.YtejkeoahdienmaaDoorDrawTW
namespace Go.Proofs.YtejkeoahdienmaaDoor.numsL
open Go.ChangeShapes Go.WideShapes Go.ChangeAt Go.RowKit
open getL getTL

theorem list_app (a b : ByteArray) : (a ++ b).data.toList = a.data.toList ++ b.data.toList := by simp
theorem nums_back {n : Int} {t : ByteArray} (hn : InI64 n) (ht : t = ⟨(putNum n).toArray⟩) :
    getAll ((⟨#[120, 121]⟩ : ByteArray) ++ t ++ ⟨#[122]⟩) 2 = (n, (t.size : Int) + 2, 0) := by
  have hl := putNum_len hn
  have hs : t.size = (putNum n).length := by rw [ht]; show (putNum n).toArray.size = _; simp
  have hd : ((⟨#[120, 121]⟩ : ByteArray) ++ t ++ ⟨#[122]⟩).data.toList = [120, 121] ++ (putNum n ++ [122]) := by
    rw [list_app, list_app, ht]; simp
  have hz : ((⟨#[120, 121]⟩ : ByteArray) ++ t ++ ⟨#[122]⟩).size = (putNum n).length + 3 := by
    rw [← len_list, hd]; simp
  unfold getAll
  rw [if_neg (by omega)]
  have := res_put (q := 2) (r := [122]) hn (s := (⟨#[120, 121]⟩ : ByteArray) ++ t ++ ⟨#[122]⟩) (by rw [hd]; rfl)
  rw [show (2 : Int) = ((2 : Nat) : Int) from rfl, this, hs]
  simp <;> omega
theorem nums_cut {n : Int} {t : ByteArray} (hn : InI64 n) (ht : t = ⟨(putNum n).toArray⟩) : getAll (t.extract 0 (t.size - 1)) 0 = (0, 0, 4) := by
  have hl := putNum_len hn
  have hs : t.size = (putNum n).length := by rw [ht]; show (putNum n).toArray.size = _; simp
  unfold getAll
  rw [if_neg (by rw [ByteArray.size_extract]; omega)]
  refine res_cut hn ?_
  rw [Lib.extract_data, List.drop_zero, List.dropLast_eq_take, hs, ht]
  simp
theorem text_back {u p : ByteArray} (hu : u.size ≤ 8000) (hp : p = ⟨(putText u).toArray⟩) (hl : p.size + 1 ≤ 8000) : textAll ((⟨#[120]⟩ : ByteArray) ++ p) 1 = (u, (p.size : Int) + 1, 0) := by
  have e : putText u = putNum u.size ++ u.data.toList := by unfold putText; rw [if_neg (by omega)]
  have hs : p.size = (putNum u.size).length + u.size := by rw [hp]; show (putText u).toArray.size = _; rw [e]; simp
  have hd : ((⟨#[120]⟩ : ByteArray) ++ p).data.toList = [120] ++ (putNum u.size ++ (u.data.toList ++ [])) := by
    rw [list_app, hp, e]; simp
  have hz : ((⟨#[120]⟩ : ByteArray) ++ p).size = p.size + 1 := by
    rw [← len_list, hd, hs]; simp <;> omega
  unfold textAll
  rw [if_neg (by omega)]
  have := text_put (q := 1) (r := []) hu (s := (⟨#[120]⟩ : ByteArray) ++ p) (by rw [hd]; rfl)
  rw [show (1 : Int) = ((1 : Nat) : Int) from rfl, this, hs]
  simp <;> omega
theorem text_early {u p : ByteArray} (hu : u.size ≤ 8000) (hp : p = ⟨(putText u).toArray⟩) (hl : p.size + 1 ≤ 8000) : textAll (p.extract 0 (p.size - 1)) 0 = (⟨#[]⟩, 0, 4) := by
  have e : putText u = putNum u.size ++ u.data.toList := by unfold putText; rw [if_neg (by omega)]
  have hs : p.size = (putText u).length := by rw [hp]; show (putText u).toArray.size = _; simp
  unfold textAll
  rw [if_neg (by rw [ByteArray.size_extract]; omega)]
  refine text_cut hu ?_
  rw [← e, Lib.extract_data, List.drop_zero, List.dropLast_eq_take, hs, hp]
  simp

theorem get_is (s : ByteArray) (p a b c : Int) (w : World) (hs : s.size ≤ maxLen) (hg : HandleAt w) (h : getAll s p = (a, b, c)) :
    Calls Tryd.prog 9 #[.string s, .int .i64 p] w fun e w' => e = .returned (.agg #[.int .i64 a, .int .i64 b, .int .i64 c]) ∧ Below w.heap.size w w' := by
  have := implGet_all s p w hs hg
  rw [h] at this
  exact this
theorem text_is (s : ByteArray) (p : Int) (a : ByteArray) (b c : Int) (w : World) (hs : s.size ≤ maxLen) (hg : HandleAt w) (h : textAll s p = (a, b, c)) :
    Calls Tryd.prog 13 #[.string s, .int .i64 p] w fun e w' => e = .returned (.agg #[.string a, .int .i64 b, .int .i64 c]) ∧ Below w.heap.size w w' := by
  have := implText_all s p w hs hg
  rw [h] at this
  exact this

theorem fldN (w : World) : (Instr.field 26 (.agg #[.int .i64 0, .int .i64 0, .int .i64 4]) 2).run Tryd.prog w = .ok (.int .i64 4) w := by kernel_rfl
theorem fldT (w : World) : (Instr.field 31 (.agg #[.string ⟨#[]⟩, .int .i64 0, .int .i64 4]) 2).run Tryd.prog w = .ok (.int .i64 4) w := by kernel_rfl

set_option maxRecDepth 100000 in
set_option maxHeartbeats 2000000 in
theorem walk (a0 : Option Addr) (len0 cap0 : Nat) (z0 : List Int) (a1 : Option Addr) (len1 cap1 : Nat) (z1 : List Int) (w : World) (h0 : IsRow .u8 w a0 len0 cap0 z0) (h1 : IsRow .u8 w a1 len1 cap1 z1) (hg : HandleAt w) :
    Calls Tryd.prog 3 #[.slice a0 len0 cap0, .slice a1 len1 cap1] w fun e w' => e = .returned (.bool true) ∧ Below w.heap.size w w' := by
  have R0 := Lib.hid (RowB.of_row h0)
  have R1 := Lib.hid (RowB.of_row h1)
  have HG := Lib.hid hg
  have hl0 := (RowB.of_row h0).1
  have hl1 := (RowB.of_row h1).1
  clear h0 h1 hg
  by_cases hA : 1048576 < len0
  · have hA' : (1048576 : Int) < len0 := by omega
    go_enter Tryd.func3, Tryd.ntmps3
    go_wp2_with fail
    go_ret
    exact ⟨rfl, Below.refl _ _⟩
  have hA' : (len0 : Int) ≤ 1048576 := by omega
  by_cases hB : 1048576 < len1
  · have hB' : (1048576 : Int) < len1 := by omega
    go_enter Tryd.func3, Tryd.ntmps3
    go_wp2_with fail
    go_ret
    exact ⟨rfl, Below.refl _ _⟩
  have hB' : (len1 : Int) ≤ 1048576 := by omega
  have HA := Lib.hid (show len0 ≤ 1048576 by omega)
  have HB := Lib.hid (show len1 ≤ 1048576 by omega)
  clear hA hB
  have fN := fldN
  have fT := fldT
  go_enter Tryd.func3, Tryd.ntmps3
  go_wp2_with fail
  refine (drawNum_any w a0 len0 cap0 R0.out HA.out).mono ?_
  rintro e w1 ⟨n, rfl, hn, hb1⟩
  have HN := Lib.hid hn
  have B1 := Lib.hid hb1
  clear hn hb1
  obtain ⟨t, HT⟩ : ∃ t, Hid (t = (⟨(putNum n).toArray⟩ : ByteArray)) := ⟨_, rfl⟩
  have htl : t.size = (putNum n).length := by rw [HT.out]; show (putNum n).toArray.size = _; simp
  have ht1 : (1 : Int) ≤ t.size := by have := (putNum_len HN.out).1; omega
  have ht2 : (t.size : Int) ≤ 10 := by have := (putNum_len HN.out).2; omega
  clear htl
  go_wp2_with fail
  refine (putNum_any n _ HN.out).mono ?_
  rw [← HT.out]
  rintro e w2 ⟨rfl, hb2⟩
  have B2 := Lib.hid (B1.out.trans (hb2.mono B1.out.size))
  clear hb2
  go_wp2_with fail
  refine (specPutNum_any n _ HN.out).mono ?_
  rw [← HT.out]
  rintro e w3 ⟨rfl, hb3⟩
  have B3 := Lib.hid (B2.out.trans (hb3.mono B2.out.size))
  clear hb3
  have HQ := Lib.hid (show ¬ 9223372036854775807 < 2 + t.size ∧ ¬ 9223372036854775807 < 2 + t.size + 1 by omega)
  obtain ⟨q1, q2⟩ := HQ.out
  clear HQ
  go_wp2_with fail
  refine (get_is _ 2 n (t.size + 2) 0 _ ?_ (HG.out.below B3.out HG.out.pos) (nums_back HN.out HT.out)).mono ?_
  · show (⟨#[120, 121]⟩ ++ t ++ ⟨#[122]⟩ : ByteArray).size ≤ maxLen
    rw [ByteArray.size_append, ByteArray.size_append]
    show 2 + t.size + 1 ≤ maxLen
    unfold maxLen; omega
  rintro e w4 ⟨rfl, hb4⟩
  have B4 := Lib.hid (B3.out.trans (hb4.mono B3.out.size))
  clear hb4
  go_wp2_with fail
  refine (get_is _ 0 0 0 4 _ ?_ ((HG.out.below B4.out HG.out.pos).alloc _) (nums_cut HN.out HT.out)).mono ?_
  · rw [ByteArray.size_extract]; unfold maxLen; omega
  rintro e w5 ⟨rfl, hb5⟩
  have B5 := Lib.hid (below_next B4.out hb5)
  clear hb5
  go_wp2_with fail
  refine (drawText_any _ a1 len1 cap1 ((R1.out.below B5.out).mono B5.out.size) HB.out).mono ?_
  rintro e w6 ⟨u, rfl, hu, hb6⟩
  have B6 := Lib.hid (B5.out.trans (hb6.mono B5.out.size))
  clear hb6
  obtain ⟨p, HP⟩ : ∃ p, Hid (p = (⟨(putText u).toArray⟩ : ByteArray)) := ⟨_, rfl⟩
  have HU := Lib.hid (show u.size ≤ maxLen by unfold maxLen; omega)
  have hpl : p.size = (putText u).length := by rw [HP.out]; show (putText u).toArray.size = _; simp
  have HPT := Lib.hid (fun w => putText_any u w HU.out)
  have HPS := Lib.hid (fun w => specPutText_any u w HU.out)
  by_cases hlong : 8000 < u.size
  · have HE := Lib.hid (show p = ByteArray.empty by rw [HP.out]; unfold putText; rw [if_pos hlong]; rfl)
    clear hpl hlong hu
    go_wp2_with fail
    refine (HPT.out _).mono ?_
    rw [← HP.out, HE.out]
    rintro e w7 ⟨rfl, hb7⟩
    have B7 := Lib.hid (B6.out.trans (hb7.mono B6.out.size))
    clear hb7
    go_wp2_with fail
    refine (HPS.out _).mono ?_
    rw [← HP.out, HE.out]
    rintro e w8 ⟨rfl, hb8⟩
    have B8 := Lib.hid (B7.out.trans (hb8.mono B7.out.size))
    clear hb8
    go_wp2_with fail
    refine (HPS.out _).mono ?_
    rw [← HP.out, HE.out]
    rintro e w9 ⟨rfl, hb9⟩
    go_wp2_with fail
    go_ret
    exact ⟨rfl, B8.out.trans (hb9.mono B8.out.size)⟩
  · have hup : u.size ≤ 8000 := by omega
    have hpt : putText u = putNum u.size ++ u.data.toList := by unfold putText; rw [if_neg hlong]
    have hI : InI64 (u.size : Int) := by unfold InI64; omega
    have hp1 : 1 ≤ p.size ∧ p.size ≤ 8010 := by
      have := putNum_len hI
      rw [hpl, hpt, List.length_append, len_list]; omega
    obtain ⟨hp1, hp2⟩ := hp1
    have hne : p.toList.isEmpty = false := by
      have : p.toList.length = p.size := by rw [Lib.toList_data]; simp
      cases h : p.toList with
      | nil => rw [h] at this; simp at this; omega
      | cons c r => rfl
    have HUP := Lib.hid hup
    clear hpl hlong hu hpt hI hup
    go_wp2_with fail
    refine (HPT.out _).mono ?_
    rw [← HP.out]
    rintro e w7 ⟨rfl, hb7⟩
    have B7 := Lib.hid (B6.out.trans (hb7.mono B6.out.size))
    clear hb7
    go_wp2_with fail
    refine (HPS.out _).mono ?_
    rw [← HP.out]
    rintro e w8 ⟨rfl, hb8⟩
    have B8 := Lib.hid (B7.out.trans (hb8.mono B7.out.size))
    clear hb8
    by_cases hfit : 8000 < p.size + 1
    · have hf : (8000 : Int) < (p.size : Int) + 1 := by omega
      go_wp2_with fail
      go_ret
      exact ⟨rfl, B8.out⟩
    · have hf : (p.size : Int) + 1 ≤ 8000 := by omega
      have HF := Lib.hid (show p.size + 1 ≤ 8000 by omega)
      have hq : ¬ 9223372036854775807 < 1 + p.size := by omega
      clear hfit
      go_wp2_with fail
      refine (text_is _ 1 u (p.size + 1) 0 _ ?_ (HG.out.below B8.out HG.out.pos) (text_back HUP.out HP.out HF.out)).mono ?_
      · rw [ByteArray.size_append]
        show 1 + p.size ≤ maxLen
        unfold maxLen; omega
      rintro e w9 ⟨rfl, hb9⟩
      have B9 := Lib.hid (B8.out.trans (hb9.mono B8.out.size))
      clear hb9
      go_wp2_with fail
      refine (text_is _ 0 ⟨#[]⟩ 0 4 _ ?_ (HG.out.below B9.out HG.out.pos) (text_early HUP.out HP.out HF.out)).mono ?_
      · rw [ByteArray.size_extract]; unfold maxLen; omega
      rintro e w10 ⟨rfl, hb10⟩
      go_wp2_with fail
      go_ret
      exact ⟨rfl, B9.out.trans (hb10.mono B9.out.size)⟩

set_option maxRecDepth 100000 in
theorem lifted (os : Os) (started : os.Started) (H : Type) (enc : TypeId × Value → H) :
    ReturnsInHanded {} Tryd.checked os 3 .any (fun w args => (Rows.fnNumsSpec.pre enc Tryd.prog Tryd.f3 [] false w args ∧ laidMetH Tryd.prog Rows.fnNumsRow.laid w) ∧ sizedMet enc Tryd.prog Tryd.f3 (OpenSpec.ofChange Rows.fnNumsSpec) false w args)
      (Rows.fnNumsSpec.post enc Tryd.prog Tryd.f3 false true false false) := by
  refine returnsInHanded_of_change_and (C := Tryd.checked) (X := fun w _ => laidMetH Tryd.prog Rows.fnNumsRow.laid w) (fun _ _ _ hh h => h.of_heap hh) own started (by kernel_rfl) Tryd.func3
    (ChangeSpec.witness_at (enc := enc) (C := Tryd.checked) (os := os) (X := fun w _ => laidMetH Tryd.prog Rows.fnNumsRow.laid w) false (laidWorld os) #[.slice none 0 0, .slice none 0 0] 8 rfl (by kernel_rfl) (by kernel_rfl) (by kernel_rfl) (by kernel_rfl) (by kernel_rfl) (laidWorld_met os _)) ?_
  intro W base args ds gs before hval0 hW hcnd _ hL _
  have hval : ∀ (j : Nat) t v, Tryd.f3.params[j]? = some t → args[j]? = some v → Value.okWide Tryd.prog W .any base t v := hval0
  have hW' := hW
  obtain ⟨p, q, hA0, hV0, rfl, hfz, hnd⟩ := hW
  have hV : DataW.TrodVars enc Tryd.prog W (fun _ => true) [] gs q := hV0
  have hA : DataW.TrodAll enc Tryd.prog W 0 (fun _ => true) true Tryd.f3.params.toList args.toList ds p := hA0
  rw [Tryd.params3] at hA hval
  obtain ⟨v0, vs0, d0, ds0, p0, q0, hargs, rfl, rfl, h0, r0⟩ := trodAll_cons hA
  obtain ⟨v1, vs1, d1, ds1, p1, q1, rfl, rfl, rfl, h1, r1⟩ := trodAll_cons r0
  obtain ⟨rfl, rfl, rfl⟩ := trodAll_nil r1
  obtain rfl : args = #[v0, v1] := by cases args; simp_all
  have hg := handle_of_laid hL
  obtain ⟨rfl, rfl⟩ : gs = [] ∧ q = [] := by
    cases gs with
    | nil => exact ⟨rfl, hV⟩
    | cons g r => exact absurd hV (by intro h; cases h)
  obtain ⟨a0, len0, cap0, rfl⟩ := okWide_slice Tryd.underlying22 (hval 0 22 v0 rfl rfl)
  have k0 := h0
  have lt0 : ∀ x ∈ p0, x.block < W.heap.size := by obtain ⟨m, hm⟩ := k0; exact DataW.trod_lt m _ _ _ hm
  obtain ⟨z0, w0⟩ : ∃ zs, IsRow .u8 W a0 len0 cap0 zs := by
    obtain ⟨fuel, hf⟩ := h0
    rcases open_ints Tryd.underlying22 Tryd.underlying5 (by kernel_rfl) hf with ⟨hcs, _⟩ | ⟨x, l, c, zs, hcs, _, hl, hm, hz, _, hcell, hwz⟩
    · simp [Value.cells] at hcs
      obtain ⟨rfl, rfl, rfl⟩ := hcs
      exact ⟨[], .inl ⟨rfl, rfl, rfl, rfl⟩⟩
    · simp [Value.cells] at hcs
      obtain ⟨rfl, rfl, rfl⟩ := hcs
      exact ⟨zs, .inr ⟨_, rfl, hl, hm, by simpa using hz, hcell, hwz⟩⟩
  obtain ⟨a1, len1, cap1, rfl⟩ := okWide_slice Tryd.underlying22 (hval 1 22 v1 rfl rfl)
  have k1 := h1
  have lt1 : ∀ x ∈ p1, x.block < W.heap.size := by obtain ⟨m, hm⟩ := k1; exact DataW.trod_lt m _ _ _ hm
  obtain ⟨z1, w1⟩ : ∃ zs, IsRow .u8 W a1 len1 cap1 zs := by
    obtain ⟨fuel, hf⟩ := h1
    rcases open_ints Tryd.underlying22 Tryd.underlying5 (by kernel_rfl) hf with ⟨hcs, _⟩ | ⟨x, l, c, zs, hcs, _, hl, hm, hz, _, hcell, hwz⟩
    · simp [Value.cells] at hcs
      obtain ⟨rfl, rfl, rfl⟩ := hcs
      exact ⟨[], .inl ⟨rfl, rfl, rfl, rfl⟩⟩
    · simp [Value.cells] at hcs
      obtain ⟨rfl, rfl, rfl⟩ := hcs
      exact ⟨zs, .inr ⟨_, rfl, hl, hm, by simpa using hz, hcell, hwz⟩⟩
  clear hA0 hval0
  refine (walk a0 len0 cap0 z0 a1 len1 cap1 z1 W w0 w1 hg).mono fun e W' ⟨he, bel⟩ => ?_
  subst he
  exact ⟨_, rfl, _, _, _, [], _, [], hW', trodAll_mk1 (shut_bool Tryd.underlying4 _), (trodAll_cons_mk (Below.trod laidOut (by kernel_rfl) (of_decide_eq_true (by kernel_rfl)) k0 bel lt0) (trodAll_cons_mk (Below.trod laidOut (by kernel_rfl) (of_decide_eq_true (by kernel_rfl)) k1 bel lt1) trodAll_mk0)), rfl, bel.frame _, fun h => by cases h⟩

theorem row_holds : Rows.FnNumsSaid :=
  OpenClaim.holds_of_wide 3 Tryd.f3 rfl rfl rfl rfl rfl rfl rfl ⟨rfl, rfl, rfl, rfl, rfl⟩ rfl rfl rfl rfl rfl (by kernel_rfl) Tryd.func3 (by kernel_rfl)
    (of_decide_eq_true (by kernel_rfl)) (by unfold Func.isWrapper; first | (rw [if_pos (by decide +kernel)]; kernel_rfl) | (rw [if_neg (by decide +kernel)]; exact ⟨rfl, rfl⟩))
    (fun os started H enc _ => lifted os started H enc)

/-- The card: the listed variable is tied to the program's text. -/
theorem proved : Rows.FnNumsCardSaid :=
  Claim7.holds_tied_plain_at .later [] [.handle] true Rows.fnNumsCard.stood.harness true
    row_holds (fun _ h => by cases h) (by kernel_rfl) (fun _ h => by cases h) fnNums_row_tie rfl ⟨rfl, rfl⟩ (by kernel_rfl) rfl
    (fun f fn hf hfn => by
      obtain rfl : f = 3 := Option.some.inj ((show Tryd.prog.funcNamed "loop.example/g00848/laws.FnNums" = some 3 by kernel_rfl).symm.trans hf) |>.symm
      obtain rfl : fn = Tryd.f3 := (Option.some.inj (Tryd.func3.symm.trans hfn)).symm
      exact ⟨by kernel_rfl, fun j t ht => by
        rw [Tryd.params3] at ht
        have hm : t ∈ [22, 22] := by have := Array.mem_of_getElem? ht; simpa using this
        simp only [List.mem_cons, List.not_mem_nil, or_false] at hm
        rcases hm with rfl | rfl
        · exact (show Tryd.prog.wantsStandIn 22 = false by kernel_rfl)
        · exact (show Tryd.prog.wantsStandIn 22 = false by kernel_rfl)⟩)
    (by kernel_rfl)
#print axioms proved
end Go.Proofs.YtejkeoahdienmaaDoor.numsL
