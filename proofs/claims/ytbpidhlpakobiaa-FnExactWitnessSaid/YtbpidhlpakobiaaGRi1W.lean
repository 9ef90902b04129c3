/- Walks: impl.CanRead, impl.Witness. -/
import Derived.Test.YtbpidhlpakobiaaGRtG
import Derived.Test.YtbpidhlpakobiaaGPartB
namespace Go.Proofs.Ytbpidhlpakobiaa
open Go.RowKit

/-- What CanRead tells, and Witness. -/
def canR (wt rt : Sh) : Bool := (rightB wt && rightB rt) && !(wnB 10 wt rt).isSome
def witR (wt rt : Sh) : Va := if (rightB wt && rightB rt) = true then (wnB 10 wt rt).getD zva else zva
theorem field_rd2 (f1 f2 : FuncId) (c1 c2 : Array Value) (w : World) : (Instr.field 49 (.agg #[.func (.func f1) #[] c1, .func (.func f2) #[] c2]) 1).run Try.prog w = .ok (.func (.func f2) #[] c2) w := by kernel_rfl
theorem field_rd1 (f1 f2 : FuncId) (c1 c2 : Array Value) (w : World) : (Instr.field 49 (.agg #[.func (.func f1) #[] c1, .func (.func f2) #[] c2]) 0).run Try.prog w = .ok (.func (.func f1) #[] c1) w := by kernel_rfl
theorem envR_none {z w : World} (h : Below z.heap.size z w) : EnvR (fun _ => False) z w := ⟨h, fun _ h => h.elim, fun _ h => h.elim⟩

set_option maxRecDepth 100000 in
set_option maxHeartbeats 1000000 in
theorem implCanRead_is (wt rt : Sh) (b : Bool) (hb : canR wt rt = b) (vw vr : Value) (w : World) (hw : IsSh w wt vw) (hr : IsSh w rt vr) :
    Calls Try.prog 8 #[vw, vr] w fun e w' => e = .returned (.bool b) ∧ Below w.heap.size w w' := by
  have HWv := Lib.hid hw
  have HRv := Lib.hid hr
  obtain ⟨p1, n1, m1, p2, n2, m2, p3, n3, m3, rfl⟩ := hw.agg
  obtain ⟨q1, i1, j1, q2, i2, j2, q3, i3, j3, rfl⟩ := hr.agg
  obtain ⟨W, hW⟩ : ∃ W, W = (w.alloc (.cells #[.int .i64 wt.kd, .slice p1 n1 m1, .slice p2 n2 m2, .slice p3 n3 m3] 30)).alloc (.cells #[.int .i64 rt.kd, .slice q1 i1 j1, .slice q2 i2 j2, .slice q3 i3 j3] 30) := ⟨_, rfl⟩
  have HN := two_new w (.cells #[.int .i64 wt.kd, .slice p1 n1 m1, .slice p2 n2 m2, .slice p3 n3 m3] 30) (.cells #[.int .i64 rt.kd, .slice q1 i1 j1, .slice q2 i2 j2, .slice q3 i3 j3] 30)
  have hbw : Below w.heap.size w W := by rw [hW]; exact (below_alloc w _).alloc (by simp) _
  rw [← hW] at HN
  have N1 := Lib.hid HN.1
  have N2 := Lib.hid HN.2
  have BW := Lib.hid hbw
  have HW := Lib.hid hW
  have HBb := Lib.hid hb
  clear HN hbw hW hw hr hb
  have HK := Lib.hid (fun (w' : World) (h : Below w.heap.size w w') => And.intro (IsSh.keep (Keeps.of_below h) _ _ HWv.out) (IsSh.keep (Keeps.of_below h) _ _ HRv.out))
  cases h1 : rightB wt
  · have H1 := Lib.hid h1
    have HB : Hid (false = b) := by show _ = _; rw [← HBb.out]; unfold canR; rw [h1]; rfl
    clear h1
    go_enter Try.func8, Try.ntmps8
    go_wp2_with fail
    rw [← HW.out]
    refine (implRight_is wt _ H1.out _ W (HK.out _ BW.out).1).mono ?_
    rintro e w1 ⟨rfl, hb1⟩
    have B1 := Lib.hid (BW.out.trans (hb1.mono BW.out.size))
    clear hb1
    go_wp2_with fail
    go_ret
    exact ⟨ret_bool HB.out, B1.out⟩
  · have H1 := Lib.hid h1
    cases h2 : rightB rt
    · have H2 := Lib.hid h2
      have HB : Hid (false = b) := by show _ = _; rw [← HBb.out]; unfold canR; rw [h1, h2]; rfl
      clear h1 h2
      go_enter Try.func8, Try.ntmps8
      go_wp2_with fail
      rw [← HW.out]
      refine (implRight_is wt _ H1.out _ W (HK.out _ BW.out).1).mono ?_
      rintro e w1 ⟨rfl, hb1⟩
      have B1 := Lib.hid (BW.out.trans (hb1.mono BW.out.size))
      obtain ⟨y0, y1, y2, y3, _, _, _, _, yz⟩ := blk4 (blk_below N2.out hb1 (blk4 N2.out).2.2.2.2.2.2.2.2)
      clear hb1
      go_wp2_with fail
      refine (implRight_is rt _ H2.out _ w1 (HK.out _ B1.out).2).mono ?_
      rintro e w2 ⟨rfl, hb2⟩
      have B2 := Lib.hid (B1.out.trans (hb2.mono B1.out.size))
      clear hb2
      go_wp2_with fail
      go_ret
      exact ⟨ret_bool HB.out, B2.out⟩
    · have H2 := Lib.hid h2
      obtain ⟨U, hU⟩ : ∃ U, wnB 10 wt rt = U := ⟨_, rfl⟩
      have HB : Hid ((!U.isSome) = b) := by show _ = _; rw [← HBb.out]; unfold canR; rw [h1, h2, hU]; rfl
      have HU := Lib.hid hU
      clear h1 h2 hU
      go_enter Try.func8, Try.ntmps8
      go_wp2_with fail
      rw [← HW.out]
      refine (implRight_is wt _ H1.out _ W (HK.out _ BW.out).1).mono ?_
      rintro e w1 ⟨rfl, hb1⟩
      have B1 := Lib.hid (BW.out.trans (hb1.mono BW.out.size))
      have P1 := Lib.hid (blk_below N1.out hb1 (blk4 N1.out).2.2.2.2.2.2.2.2)
      have P2 := Lib.hid (blk_below N2.out hb1 (blk4 N2.out).2.2.2.2.2.2.2.2)
      obtain ⟨y0, y1, y2, y3, _, _, _, _, yz⟩ := blk4 P2.out
      clear hb1
      go_wp2_with fail
      refine (implRight_is rt _ H2.out _ w1 (HK.out _ B1.out).2).mono ?_
      rintro e w2 ⟨rfl, hb2⟩
      have B2 := Lib.hid (B1.out.trans (hb2.mono B1.out.size))
      clear y0 y1 y2 y3 yz
      obtain ⟨y0, y1, y2, y3, _, _, _, _, yz⟩ := blk4 (blk_below P2.out hb2 (blk4 P2.out).2.2.2.2.2.2.2.2)
      obtain ⟨x0, x1, x2, x3, _, _, _, _, xz⟩ := blk4 (blk_below P1.out hb2 (blk4 P1.out).2.2.2.2.2.2.2.2)
      clear hb2
      go_wp2_with fail
      refine (readingT_any (fun _ => False) w w2 wt rt _ _ H1.out H2.out HWv.out HRv.out (envR_none B2.out)).mono ?_
      rintro e w3 ⟨f1, c1, f2, c2, rfl, hG, hb3⟩
      have B3 := Lib.hid (B2.out.trans (hb3.mono B2.out.size))
      obtain ⟨hE, hC⟩ := hG
      have HCall := Lib.hid (hC w3 (Still.refl _ _))
      rw [HU.out] at HCall
      unfold Enters at hE
      have hf := field_rd2 f1 f2 c1 c2 w3
      clear hb3 hC x0 x1 x2 x3 xz y0 y1 y2 y3 yz
      go_wp2_with fail
      refine HCall.out.mono ?_
      rintro e w4 ⟨d0, d1, d2, d3, F, rfl, ho4, hn4, hb4⟩
      obtain ⟨r3, z3, rfl, rfl, rfl, rfl⟩ := (OwnVa.is _ _ _ ho4).cells
      have B4 := Lib.hid (B3.out.trans (hb4.mono B3.out.size))
      clear ho4 hn4 hb4 hE hf
      cases hs : U.isSome
      all_goals
        rw [hs] at HB
        clear hs
        go_wp2_with fail
        go_ret
        exact ⟨ret_bool HB.out, B4.out.alloc B4.out.size _⟩
set_option maxRecDepth 100000 in
set_option maxHeartbeats 1000000 in
theorem implWitness_is (wt rt : Sh) (x : Va) (hb : witR wt rt = x) (vw vr : Value) (w : World) (hw : IsSh w wt vw) (hr : IsSh w rt vr) :
    Calls Try.prog 11 #[vw, vr] w (ToVPost x w) := by
  have HWv := Lib.hid hw
  have HRv := Lib.hid hr
  obtain ⟨p1, n1, m1, p2, n2, m2, p3, n3, m3, rfl⟩ := hw.agg
  obtain ⟨q1, i1, j1, q2, i2, j2, q3, i3, j3, rfl⟩ := hr.agg
  obtain ⟨W, hW⟩ : ∃ W, W = ((w.alloc (.cells #[.int .i64 wt.kd, .slice p1 n1 m1, .slice p2 n2 m2, .slice p3 n3 m3] 30)).alloc (.cells #[.int .i64 rt.kd, .slice q1 i1 j1, .slice q2 i2 j2, .slice q3 i3 j3] 30)).alloc (.cells #[.int .i64 0, .int .i64 0, .string ⟨#[]⟩, .slice none 0 0] 35) := ⟨_, rfl⟩
  have HN := three_new w (.cells #[.int .i64 wt.kd, .slice p1 n1 m1, .slice p2 n2 m2, .slice p3 n3 m3] 30) (.cells #[.int .i64 rt.kd, .slice q1 i1 j1, .slice q2 i2 j2, .slice q3 i3 j3] 30) (.cells #[.int .i64 0, .int .i64 0, .string ⟨#[]⟩, .slice none 0 0] 35)
  have hbw : Below w.heap.size w W := by rw [hW]; exact ((below_alloc w _).alloc (by simp) _).alloc (by simp; omega) _
  have hz : W.heap.size = w.heap.size + 1 + 1 + 1 := by rw [hW]; simp
  have HZ := Lib.hid hz
  rw [← hW] at HN
  have N1 := Lib.hid HN.1
  have N2 := Lib.hid HN.2.1
  have N3 := Lib.hid HN.2.2
  have BW := Lib.hid hbw
  have HW := Lib.hid hW
  have HBb := Lib.hid hb
  clear HN hbw hW hw hr hb hz
  have HK := Lib.hid (fun (w' : World) (h : Below w.heap.size w w') => And.intro (IsSh.keep (Keeps.of_below h) _ _ HWv.out) (IsSh.keep (Keeps.of_below h) _ _ HRv.out))
  cases h1 : rightB wt
  · have H1 := Lib.hid h1
    have HB : Hid (zva = x) := by show _ = _; rw [← HBb.out]; unfold witR; rw [h1]; rfl
    clear h1
    go_enter Try.func11, Try.ntmps11
    go_wp2_with fail
    rw [← HW.out]
    refine (implRight_is wt _ H1.out _ W (HK.out _ BW.out).1).mono ?_
    rintro e w1 ⟨rfl, hb1⟩
    have B1 := Lib.hid (BW.out.trans (hb1.mono BW.out.size))
    obtain ⟨r0, r1, r2, r3, _, _, _, _, rz⟩ := blk4 (blk_below N3.out hb1 (by have := HZ.out; omega))
    clear hb1
    go_wp2_with fail
    refine bodyPost_ret (v := .agg #[.int .i64 0, .int .i64 0, .string ⟨#[]⟩, .slice none 0 0]) (by simp [results, Try.results11, go_sem, r0, r1, r2, r3]) rfl ?_
    rw [← HB.out]
    exact va_end B1.out (by omega) (own_zva _ _) (by simp) List.nodup_nil
  · have H1 := Lib.hid h1
    cases h2 : rightB rt
    · have H2 := Lib.hid h2
      have HB : Hid (zva = x) := by show _ = _; rw [← HBb.out]; unfold witR; rw [h1, h2]; rfl
      clear h1 h2
      go_enter Try.func11, Try.ntmps11
      go_wp2_with fail
      rw [← HW.out]
      refine (implRight_is wt _ H1.out _ W (HK.out _ BW.out).1).mono ?_
      rintro e w1 ⟨rfl, hb1⟩
      have B1 := Lib.hid (BW.out.trans (hb1.mono BW.out.size))
      obtain ⟨y0, y1, y2, y3, _, _, _, _, yz⟩ := blk4 (blk_below N2.out hb1 (blk4 N2.out).2.2.2.2.2.2.2.2)
      have P3 := Lib.hid (blk_below N3.out hb1 (by have := HZ.out; omega))
      clear hb1
      go_wp2_with fail
      refine (implRight_is rt _ H2.out _ w1 (HK.out _ B1.out).2).mono ?_
      rintro e w2 ⟨rfl, hb2⟩
      have B2 := Lib.hid (B1.out.trans (hb2.mono B1.out.size))
      obtain ⟨r0, r1, r2, r3, _, _, _, _, rz⟩ := blk4 (blk_below P3.out hb2 (blk4 P3.out).2.2.2.2.2.2.2.2)
      clear hb2
      go_wp2_with fail
      refine bodyPost_ret (v := .agg #[.int .i64 0, .int .i64 0, .string ⟨#[]⟩, .slice none 0 0]) (by simp [results, Try.results11, go_sem, r0, r1, r2, r3]) rfl ?_
      rw [← HB.out]
      exact va_end B2.out (by omega) (own_zva _ _) (by simp) List.nodup_nil
    · have H2 := Lib.hid h2
      obtain ⟨U, hU⟩ : ∃ U, wnB 10 wt rt = U := ⟨_, rfl⟩
      have HB : Hid (U.getD zva = x) := by show _ = _; rw [← HBb.out]; unfold witR; rw [h1, h2, hU]; rfl
      have HU := Lib.hid hU
      clear h1 h2 hU
      go_enter Try.func11, Try.ntmps11
      go_wp2_with fail
      rw [← HW.out]
      refine (implRight_is wt _ H1.out _ W (HK.out _ BW.out).1).mono ?_
      rintro e w1 ⟨rfl, hb1⟩
      have B1 := Lib.hid (BW.out.trans (hb1.mono BW.out.size))
      have P1 := Lib.hid (blk_below N1.out hb1 (blk4 N1.out).2.2.2.2.2.2.2.2)
      have P2 := Lib.hid (blk_below N2.out hb1 (blk4 N2.out).2.2.2.2.2.2.2.2)
      have P3 := Lib.hid (blk_below N3.out hb1 (by have := HZ.out; omega))
      obtain ⟨y0, y1, y2, y3, _, _, _, _, yz⟩ := blk4 P2.out
      clear hb1
      go_wp2_with fail
      refine (implRight_is rt _ H2.out _ w1 (HK.out _ B1.out).2).mono ?_
      rintro e w2 ⟨rfl, hb2⟩
      have B2 := Lib.hid (B1.out.trans (hb2.mono B1.out.size))
      have S3 := Lib.hid (blk_below P3.out hb2 (blk4 P3.out).2.2.2.2.2.2.2.2)
      clear y0 y1 y2 y3 yz
      obtain ⟨y0, y1, y2, y3, _, _, _, _, yz⟩ := blk4 (blk_below P2.out hb2 (blk4 P2.out).2.2.2.2.2.2.2.2)
      obtain ⟨x0, x1, x2, x3, _, _, _, _, xz⟩ := blk4 (blk_below P1.out hb2 (blk4 P1.out).2.2.2.2.2.2.2.2)
      clear hb2
      go_wp2_with fail
      refine (readingT_any (fun _ => False) w w2 wt rt _ _ H1.out H2.out HWv.out HRv.out (envR_none B2.out)).mono ?_
      rintro e w3 ⟨f1, c1, f2, c2, rfl, hG, hb3⟩
      have B3 := Lib.hid (B2.out.trans (hb3.mono B2.out.size))
      have T3 := Lib.hid (blk_below S3.out hb3 (blk4 S3.out).2.2.2.2.2.2.2.2)
      obtain ⟨hE, hC⟩ := hG
      have HCall := Lib.hid (hC w3 (Still.refl _ _))
      rw [HU.out] at HCall
      unfold Enters at hE
      have hf := field_rd2 f1 f2 c1 c2 w3
      clear hb3 hC x0 x1 x2 x3 xz y0 y1 y2 y3 yz
      go_wp2_with fail
      refine HCall.out.mono ?_
      rintro e w4 ⟨d0, d1, d2, d3, F, rfl, ho4, hn4, hb4⟩
      have lt4 := OwnVa.blocks _ _ _ ho4
      rw [HB.out] at ho4
      obtain ⟨r3, z3, rfl, rfl, rfl, rfl⟩ := (OwnVa.is _ _ _ ho4).cells
      have hB4 := B3.out.trans (hb4.mono B3.out.size)
      have B4 := Lib.hid (hB4.alloc hB4.size (.cells #[.int .i64 x.kd, .int .i64 x.nn, .string x.tx, .slice r3 x.it.length z3] 35))
      have hz3 : w.heap.size + 1 + 1 < w3.heap.size := (blk4 T3.out).2.2.2.2.2.2.2.2
      have ho5 : OwnVa (w4.alloc (.cells #[.int .i64 x.kd, .int .i64 x.nn, .string x.tx, .slice r3 x.it.length z3] 35)) w.heap.size x (.agg #[.int .i64 x.kd, .int .i64 x.nn, .string x.tx, .slice r3 x.it.length z3]) F := OwnVa.move (by omega) _ _ _ (fun g hg => (below_alloc w4 _).block g (lt4 g hg).2) ho4
      have HO := Lib.hid ho5
      have HNd := Lib.hid hn4
      have HF : Hid (∀ q ∈ F, q ≠ w.heap.size + 1 + 1) := fun q hq => by have := lt4 q hq; omega
      obtain ⟨r0, r1, r2, rr3, _, _, _, _, rz⟩ := blk4 (blk_below T3.out hb4 hz3)
      clear ho4 hn4 hb4 hE hf lt4 hB4 ho5
      go_wp2_with fail
      refine bodyPost_ret (v := .agg #[.int .i64 x.kd, .int .i64 x.nn, .string x.tx, .slice r3 x.it.length z3]) (by simp [results, Try.results11, go_sem, r0, r1, r2, rr3, rz]) rfl ?_
      have h' := va_end (b := w.heap.size + 1 + 1) B4.out (by omega) HO.out HF.out HNd.out
      rw [putQ_alloc rz] at h'
      exact h'
end Go.Proofs.Ytbpidhlpakobiaa
