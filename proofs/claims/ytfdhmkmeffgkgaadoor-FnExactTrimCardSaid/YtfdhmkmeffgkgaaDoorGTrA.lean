/- Walks: impl.editsAlike, spec.EditSame. · Walk: impl.comesToNothing. -/
import Derived.Test.YtfdhmkmeffgkgaaDoorGTrP
import Derived.Test.YtfdhmkmeffgkgaaDoorGMapB
import Derived.Test.YtfdhmkmeffgkgaaDoorGTwoP
import Derived.Test.YtfdhmkmeffgkgaaDoorGUndA
import Derived.Deep.RegionHeld3
namespace Go.Proofs.YtfdhmkmeffgkgaaDoor
open Go.RowKit

theorem tnodes_le : ∀ (d : Nat) (t : Sh), partOk d t = true → t.nodes ≤ 7 ^ d
  | 0, t, h => by cases t; simp [partOk] at h
  | d + 1, .mk k sy na su, h => by
    simp only [partOk, Bool.and_eq_true] at h
    have h1 := (sound_words h.1).2.2
    have h2 : ∀ l : List Sh, l.all (partOk d) = true → Sh.nodess l ≤ l.length * 7 ^ d := by
      intro l
      induction l with
      | nil => intro _; simp [Sh.nodess]
      | cons x l ih =>
        intro h
        simp only [List.all_cons, Bool.and_eq_true] at h
        have h3 := tnodes_le d x h.1
        have h4 := ih h.2
        simp only [Sh.nodess, List.length_cons, Nat.add_mul, Nat.one_mul]; omega
    have h2 := h2 su h.2
    have h3 : su.length * 7 ^ d ≤ 6 * 7 ^ d := Nat.mul_le_mul_right _ h1
    have h4 : 1 ≤ 7 ^ d := Nat.one_le_pow _ _ (by decide)
    simp only [Sh.nodes, Nat.pow_succ]; omega
theorem cp_nodes {t : Sh} (h : CpOk t) : t.nodes ≤ 1048577 := by
  rcases h with h | rfl
  · have := tnodes_le 5 t h
    have e : (7 : Nat) ^ 5 = 16807 := by decide
    omega
  · simp [Sh.nodes, Sh.nodess]
/-- impl.ShapeSame, the first one's lists each in a block of its own. -/
theorem same_own {x y : Sh} {b : Bool} (hb : shEq x y = b) {v u : Value} {w : World} {B : Nat} {F : List Nat} (hx : CpOk x) (h : OwnSh w B x v F) (hF : F.Nodup) (g : IsSh w y u) :
    Calls Tryd.prog 78 #[v, u] w fun e w' => e = .returned (.bool b) ∧ Below w.heap.size w w' := by
  obtain ⟨p1, n1, m1, p2, n2, m2, p3, n3, m3, rfl⟩ := (OwnSh.is _ _ _ h).agg
  obtain ⟨q1, i1, j1, q2, i2, j2, q3, i3, j3, rfl⟩ := g.agg
  obtain ⟨rfl, rfl⟩ : n3 = x.su.length ∧ i3 = y.su.length := by
    constructor
    · obtain ⟨_, _, _, _, _, _, _, _, _, _, _, e4⟩ := cells3 (OwnSh.is _ _ _ h)
      simp only [Value.slice.injEq] at e4; exact e4.2.1
    · obtain ⟨_, _, _, _, _, _, _, _, _, _, _, e4⟩ := cells3 g
      simp only [Value.slice.injEq] at e4; exact e4.2.1
  exact implSame_is ⟨x, y, p1, n1, m1, p2, n2, m2, p3, m3, q1, i1, j1, q2, i2, j2, q3, j3, F⟩ b hb w ⟨OwnSh.move (Nat.zero_le _) _ _ _ (fun _ _ => rfl) h, g⟩ hF (cp_nodes hx)

set_option maxRecDepth 100000 in
set_option maxHeartbeats 4000000 in
theorem alike_is (a b : Ed) (r : Bool) (hr : edEq a b = r) (v u : Value) (w : World) (B : Nat) (F : List Nat) (h : OwnEd w B a v F) (hF : F.Nodup) (h5 : CpOk a.sh) (h6 : CpOk a.ws) (g : IsEd w b u) :
    Calls Tryd.prog 72 #[v, u] w fun e w' => e = .returned (.bool r) ∧ Below w.heap.size w w' := by
  obtain ⟨p0, p1, p2, p3, p4, p5, p6, p7, p8, p9, p10, p11, p12, p13, p14, p15, p16, p17, p18, p19, Fs, Fw, rfl, _, _, _, _, ho1, ho2, ho3, rfl⟩ := h
  have hp1 := ho1.is
  have N2 : Hid Fs.Nodup := by show _; simp only [List.nodup_append] at hF; exact hF.2.1.1
  have N3 : Hid Fw.Nodup := by show _; simp only [List.nodup_append] at hF; exact hF.2.1.2.1
  have C5 := Lib.hid h5
  have C6 := Lib.hid h6
  obtain ⟨q0, q1, q2, q3, q4, q5, q6, q7, q8, q9, q10, q11, q12, q13, q14, q15, q16, q17, q18, q19, rfl, _, _, _, _, hq1, hq2, hq3⟩ := g
  cases a with | mk akd apath apl anm atn ash aws =>
  cases b with | mk bkd bpath bpl bnm btn bsh bws =>
  dsimp only at *
  obtain ⟨W, hW⟩ : ∃ W, W = (w.alloc (.cells #[.int .i64 akd, .slice p0 apath.length p1, .int .i64 apl, .string anm, .string atn, .int .i64 ash.kd, .slice p2 p3 p4, .slice p5 p6 p7, .slice p8 p9 p10, .int .i64 aws.kd, .slice p11 p12 p13, .slice p14 p15 p16, .slice p17 p18 p19] 33)).alloc (.cells #[.int .i64 bkd, .slice q0 bpath.length q1, .int .i64 bpl, .string bnm, .string btn, .int .i64 bsh.kd, .slice q2 q3 q4, .slice q5 q6 q7, .slice q8 q9 q10, .int .i64 bws.kd, .slice q11 q12 q13, .slice q14 q15 q16, .slice q17 q18 q19] 33) := ⟨_, rfl⟩
  obtain ⟨x0, x1⟩ := two_new w (.cells #[.int .i64 akd, .slice p0 apath.length p1, .int .i64 apl, .string anm, .string atn, .int .i64 ash.kd, .slice p2 p3 p4, .slice p5 p6 p7, .slice p8 p9 p10, .int .i64 aws.kd, .slice p11 p12 p13, .slice p14 p15 p16, .slice p17 p18 p19] 33) (.cells #[.int .i64 bkd, .slice q0 bpath.length q1, .int .i64 bpl, .string bnm, .string btn, .int .i64 bsh.kd, .slice q2 q3 q4, .slice q5 q6 q7, .slice q8 q9 q10, .int .i64 bws.kd, .slice q11 q12 q13, .slice q14 q15 q16, .slice q17 q18 q19] 33)
  have hb : Below w.heap.size w W := by rw [hW]; exact (below_alloc w _).alloc (by simp) _
  have hz : W.heap.size = w.heap.size + 1 + 1 := by rw [hW]; simp
  rw [← hW] at x0 x1
  have A0 := Lib.hid x0
  have A1 := Lib.hid x1
  have B0 := Lib.hid hb
  have HZ := Lib.hid hz
  have HW := Lib.hid hW
  have HR := Lib.hid hr
  have P1 := Lib.hid (fun (w' : World) (hb' : Below W.heap.size W w') => hp1.keep (Keeps.of_below (hb.trans (hb'.mono hb.size))))
  have Q1 := Lib.hid (fun (w' : World) (hb' : Below W.heap.size W w') => hq1.keep (Keeps.of_below (hb.trans (hb'.mono hb.size))))
  have Q2 := Lib.hid (fun (w' : World) (hb' : Below W.heap.size W w') => IsSh.keep (Keeps.of_below (hb.trans (hb'.mono hb.size))) _ _ hq2)
  have Q3 := Lib.hid (fun (w' : World) (hb' : Below W.heap.size W w') => IsSh.keep (Keeps.of_below (hb.trans (hb'.mono hb.size))) _ _ hq3)
  have P2 := Lib.hid (fun (w' : World) (hb' : Below W.heap.size W w') => OwnSh.move (Nat.le_refl _) _ _ _ (fun g hg => (hb.trans (hb'.mono hb.size)).block g (OwnSh.blocks _ _ _ ho2 g hg).2) ho2)
  have P3 := Lib.hid (fun (w' : World) (hb' : Below W.heap.size W w') => OwnSh.move (Nat.le_refl _) _ _ _ (fun g hg => (hb.trans (hb'.mono hb.size)).block g (OwnSh.blocks _ _ _ ho3 g hg).2) ho3)
  clear ho1 ho2 ho3 hp1 hq1 hq2 hq3 x0 x1 hb hz hW hr hF h5 h6
  obtain ⟨rp, hrp⟩ : ∃ rp, decide (apath = bpath) = rp := ⟨_, rfl⟩
  obtain ⟨rs, hrs⟩ : ∃ rs, shEq ash bsh = rs := ⟨_, rfl⟩
  obtain ⟨rw', hrw⟩ : ∃ rw', shEq aws bws = rw' := ⟨_, rfl⟩
  have HE : Hid ((decide (akd = bkd) && rp && decide (apl = bpl) && decide (anm = bnm) && decide (atn = btn) && rs && rw') = r) := by show _ = _; rw [← HR.out, ← hrp, ← hrs, ← hrw]; rfl
  have RP := Lib.hid hrp
  have RS := Lib.hid hrs
  have RW := Lib.hid hrw
  clear hrp hrs hrw
  have a0 := cel A0.out 0 rfl
  have b0 := cel A1.out 0 rfl
  have a1 := cel A0.out 1 rfl
  have b1 := cel A1.out 1 rfl
  have a2 := cel A0.out 2 rfl
  have b2 := cel A1.out 2 rfl
  have a3 := cel A0.out 3 rfl
  have b3 := cel A1.out 3 rfl
  have a4 := cel A0.out 4 rfl
  have b4 := cel A1.out 4 rfl
  have a5 := cel A0.out 5 rfl
  have b5 := cel A1.out 5 rfl
  have a6 := cel A0.out 6 rfl
  have b6 := cel A1.out 6 rfl
  have a7 := cel A0.out 7 rfl
  have b7 := cel A1.out 7 rfl
  have a8 := cel A0.out 8 rfl
  have b8 := cel A1.out 8 rfl
  have a9 := cel A0.out 9 rfl
  have b9 := cel A1.out 9 rfl
  have a10 := cel A0.out 10 rfl
  have b10 := cel A1.out 10 rfl
  have a11 := cel A0.out 11 rfl
  have b11 := cel A1.out 11 rfl
  have a12 := cel A0.out 12 rfl
  have b12 := cel A1.out 12 rfl
  by_cases e1 : akd = bkd
  · subst e1
    go_enter Tryd.func72, Tryd.ntmps72
    go_wp2_with fail
    rw [← HW.out]
    refine (eqStrs_any _ _ apath bpath W (P1.out _ (Below.refl _ _)) (Q1.out _ (Below.refl _ _)) rp RP.out).mono ?_
    rintro e w1 ⟨rfl, hb1⟩
    have HB1 := Lib.hid hb1
    clear hb1 a0 b0 a1 b1 a2 b2 a3 b3 a4 b4 a5 b5 a6 b6 a7 b7 a8 b8 a9 b9 a10 b10 a11 b11 a12 b12
    have AA1 := Lib.hid (blk_below A0.out HB1.out (by have := HZ.out; omega))
    have AB1 := Lib.hid (blk_below A1.out HB1.out (by have := HZ.out; omega))
    have a0 := cel AA1.out 0 rfl
    have a1 := cel AA1.out 1 rfl
    have a2 := cel AA1.out 2 rfl
    have a3 := cel AA1.out 3 rfl
    have a4 := cel AA1.out 4 rfl
    have a5 := cel AA1.out 5 rfl
    have a6 := cel AA1.out 6 rfl
    have a7 := cel AA1.out 7 rfl
    have a8 := cel AA1.out 8 rfl
    have a9 := cel AA1.out 9 rfl
    have a10 := cel AA1.out 10 rfl
    have a11 := cel AA1.out 11 rfl
    have a12 := cel AA1.out 12 rfl
    have b0 := cel AB1.out 0 rfl
    have b1 := cel AB1.out 1 rfl
    have b2 := cel AB1.out 2 rfl
    have b3 := cel AB1.out 3 rfl
    have b4 := cel AB1.out 4 rfl
    have b5 := cel AB1.out 5 rfl
    have b6 := cel AB1.out 6 rfl
    have b7 := cel AB1.out 7 rfl
    have b8 := cel AB1.out 8 rfl
    have b9 := cel AB1.out 9 rfl
    have b10 := cel AB1.out 10 rfl
    have b11 := cel AB1.out 11 rfl
    have b12 := cel AB1.out 12 rfl
    cases rp
    · go_wp2_with fail
      go_ret
      exact ⟨by rw [← HE.out]; simp, B0.out.trans (HB1.out.mono B0.out.size)⟩
    · by_cases e2 : apl = bpl
      · subst e2
        by_cases e3 : anm = bnm
        · subst e3
          by_cases e4 : atn = btn
          · subst e4
            go_wp2_with fail
            refine (same_own RS.out C5.out (P2.out _ HB1.out) N2.out (Q2.out _ HB1.out)).mono ?_
            rintro e w2 ⟨rfl, hb2⟩
            have HB2 := Lib.hid (HB1.out.trans (hb2.mono HB1.out.size))
            clear hb2 a0 b0 a1 b1 a2 b2 a3 b3 a4 b4 a5 b5 a6 b6 a7 b7 a8 b8 a9 b9 a10 b10 a11 b11 a12 b12
            have AA2 := Lib.hid (blk_below A0.out HB2.out (by have := HZ.out; omega))
            have AB2 := Lib.hid (blk_below A1.out HB2.out (by have := HZ.out; omega))
            have a0 := cel AA2.out 0 rfl
            have a1 := cel AA2.out 1 rfl
            have a2 := cel AA2.out 2 rfl
            have a3 := cel AA2.out 3 rfl
            have a4 := cel AA2.out 4 rfl
            have a5 := cel AA2.out 5 rfl
            have a6 := cel AA2.out 6 rfl
            have a7 := cel AA2.out 7 rfl
            have a8 := cel AA2.out 8 rfl
            have a9 := cel AA2.out 9 rfl
            have a10 := cel AA2.out 10 rfl
            have a11 := cel AA2.out 11 rfl
            have a12 := cel AA2.out 12 rfl
            have b0 := cel AB2.out 0 rfl
            have b1 := cel AB2.out 1 rfl
            have b2 := cel AB2.out 2 rfl
            have b3 := cel AB2.out 3 rfl
            have b4 := cel AB2.out 4 rfl
            have b5 := cel AB2.out 5 rfl
            have b6 := cel AB2.out 6 rfl
            have b7 := cel AB2.out 7 rfl
            have b8 := cel AB2.out 8 rfl
            have b9 := cel AB2.out 9 rfl
            have b10 := cel AB2.out 10 rfl
            have b11 := cel AB2.out 11 rfl
            have b12 := cel AB2.out 12 rfl
            cases rs
            · go_wp2_with fail
              go_ret
              exact ⟨by rw [← HE.out]; simp, B0.out.trans (HB2.out.mono B0.out.size)⟩
            · go_wp2_with fail
              refine (same_own RW.out C6.out (P3.out _ HB2.out) N3.out (Q3.out _ HB2.out)).mono ?_
              rintro e w3 ⟨rfl, hb3⟩
              have HB3 := Lib.hid (HB2.out.trans (hb3.mono HB2.out.size))
              clear hb3 a0 b0 a1 b1 a2 b2 a3 b3 a4 b4 a5 b5 a6 b6 a7 b7 a8 b8 a9 b9 a10 b10 a11 b11 a12 b12
              have AA3 := Lib.hid (blk_below A0.out HB3.out (by have := HZ.out; omega))
              have AB3 := Lib.hid (blk_below A1.out HB3.out (by have := HZ.out; omega))
              have a0 := cel AA3.out 0 rfl
              have a1 := cel AA3.out 1 rfl
              have a2 := cel AA3.out 2 rfl
              have a3 := cel AA3.out 3 rfl
              have a4 := cel AA3.out 4 rfl
              have a5 := cel AA3.out 5 rfl
              have a6 := cel AA3.out 6 rfl
              have a7 := cel AA3.out 7 rfl
              have a8 := cel AA3.out 8 rfl
              have a9 := cel AA3.out 9 rfl
              have a10 := cel AA3.out 10 rfl
              have a11 := cel AA3.out 11 rfl
              have a12 := cel AA3.out 12 rfl
              have b0 := cel AB3.out 0 rfl
              have b1 := cel AB3.out 1 rfl
              have b2 := cel AB3.out 2 rfl
              have b3 := cel AB3.out 3 rfl
              have b4 := cel AB3.out 4 rfl
              have b5 := cel AB3.out 5 rfl
              have b6 := cel AB3.out 6 rfl
              have b7 := cel AB3.out 7 rfl
              have b8 := cel AB3.out 8 rfl
              have b9 := cel AB3.out 9 rfl
              have b10 := cel AB3.out 10 rfl
              have b11 := cel AB3.out 11 rfl
              have b12 := cel AB3.out 12 rfl
              go_wp2_with fail
              go_ret
              exact ⟨by rw [← HE.out]; simp, B0.out.trans (HB3.out.mono B0.out.size)⟩
          · have hq : (atn.toList == btn.toList) = false := ba_ne e4
            go_wp2_with fail
            go_ret
            exact ⟨by rw [← HE.out]; simp [e4], B0.out.trans (HB1.out.mono B0.out.size)⟩
        · have hq : (anm.toList == bnm.toList) = false := ba_ne e3
          go_wp2_with fail
          go_ret
          exact ⟨by rw [← HE.out]; simp [e3], B0.out.trans (HB1.out.mono B0.out.size)⟩
      · have hq : (apl == bpl) = false := by simpa using e2
        go_wp2_with fail
        go_ret
        exact ⟨by rw [← HE.out]; simp [e2], B0.out.trans (HB1.out.mono B0.out.size)⟩
  · have hq : (akd == bkd) = false := by simpa using e1
    go_enter Tryd.func72, Tryd.ntmps72
    go_wp2_with fail
    rw [← HW.out]
    go_ret
    exact ⟨by rw [← HE.out]; simp [e1], B0.out⟩

set_option maxRecDepth 100000 in
set_option maxHeartbeats 4000000 in
theorem same_is (a b : Ed) (r : Bool) (hr : edEq a b = r) (v u : Value) (w : World) (h : IsEd w a v) (g : IsEd w b u) :
    Calls Tryd.prog 42 #[v, u] w fun e w' => e = .returned (.bool r) ∧ Below w.heap.size w w' := by
  obtain ⟨p0, p1, p2, p3, p4, p5, p6, p7, p8, p9, p10, p11, p12, p13, p14, p15, p16, p17, p18, p19, rfl, _, _, _, _, hp1, hp2, hp3⟩ := h
  obtain ⟨q0, q1, q2, q3, q4, q5, q6, q7, q8, q9, q10, q11, q12, q13, q14, q15, q16, q17, q18, q19, rfl, _, _, _, _, hq1, hq2, hq3⟩ := g
  cases a with | mk akd apath apl anm atn ash aws =>
  cases b with | mk bkd bpath bpl bnm btn bsh bws =>
  dsimp only at *
  obtain ⟨W, hW⟩ : ∃ W, W = (w.alloc (.cells #[.int .i64 akd, .slice p0 apath.length p1, .int .i64 apl, .string anm, .string atn, .int .i64 ash.kd, .slice p2 p3 p4, .slice p5 p6 p7, .slice p8 p9 p10, .int .i64 aws.kd, .slice p11 p12 p13, .slice p14 p15 p16, .slice p17 p18 p19] 33)).alloc (.cells #[.int .i64 bkd, .slice q0 bpath.length q1, .int .i64 bpl, .string bnm, .string btn, .int .i64 bsh.kd, .slice q2 q3 q4, .slice q5 q6 q7, .slice q8 q9 q10, .int .i64 bws.kd, .slice q11 q12 q13, .slice q14 q15 q16, .slice q17 q18 q19] 33) := ⟨_, rfl⟩
  obtain ⟨x0, x1⟩ := two_new w (.cells #[.int .i64 akd, .slice p0 apath.length p1, .int .i64 apl, .string anm, .string atn, .int .i64 ash.kd, .slice p2 p3 p4, .slice p5 p6 p7, .slice p8 p9 p10, .int .i64 aws.kd, .slice p11 p12 p13, .slice p14 p15 p16, .slice p17 p18 p19] 33) (.cells #[.int .i64 bkd, .slice q0 bpath.length q1, .int .i64 bpl, .string bnm, .string btn, .int .i64 bsh.kd, .slice q2 q3 q4, .slice q5 q6 q7, .slice q8 q9 q10, .int .i64 bws.kd, .slice q11 q12 q13, .slice q14 q15 q16, .slice q17 q18 q19] 33)
  have hb : Below w.heap.size w W := by rw [hW]; exact (below_alloc w _).alloc (by simp) _
  have hz : W.heap.size = w.heap.size + 1 + 1 := by rw [hW]; simp
  rw [← hW] at x0 x1
  have A0 := Lib.hid x0
  have A1 := Lib.hid x1
  have B0 := Lib.hid hb
  have HZ := Lib.hid hz
  have HW := Lib.hid hW
  have HR := Lib.hid hr
  have P1 := Lib.hid (fun (w' : World) (hb' : Below W.heap.size W w') => hp1.keep (Keeps.of_below (hb.trans (hb'.mono hb.size))))
  have Q1 := Lib.hid (fun (w' : World) (hb' : Below W.heap.size W w') => hq1.keep (Keeps.of_below (hb.trans (hb'.mono hb.size))))
  have Q2 := Lib.hid (fun (w' : World) (hb' : Below W.heap.size W w') => IsSh.keep (Keeps.of_below (hb.trans (hb'.mono hb.size))) _ _ hq2)
  have Q3 := Lib.hid (fun (w' : World) (hb' : Below W.heap.size W w') => IsSh.keep (Keeps.of_below (hb.trans (hb'.mono hb.size))) _ _ hq3)
  have P2 := Lib.hid (fun (w' : World) (hb' : Below W.heap.size W w') => IsSh.keep (Keeps.of_below (hb.trans (hb'.mono hb.size))) _ _ hp2)
  have P3 := Lib.hid (fun (w' : World) (hb' : Below W.heap.size W w') => IsSh.keep (Keeps.of_below (hb.trans (hb'.mono hb.size))) _ _ hp3)
  clear hp1 hp2 hp3 hq1 hq2 hq3 x0 x1 hb hz hW hr
  obtain ⟨rp, hrp⟩ : ∃ rp, decide (apath = bpath) = rp := ⟨_, rfl⟩
  obtain ⟨rs, hrs⟩ : ∃ rs, shEq ash bsh = rs := ⟨_, rfl⟩
  obtain ⟨rw', hrw⟩ : ∃ rw', shEq aws bws = rw' := ⟨_, rfl⟩
  have HE : Hid ((decide (akd = bkd) && rp && decide (apl = bpl) && decide (anm = bnm) && decide (atn = btn) && rs && rw') = r) := by show _ = _; rw [← HR.out, ← hrp, ← hrs, ← hrw]; rfl
  have RP := Lib.hid hrp
  have RS := Lib.hid hrs
  have RW := Lib.hid hrw
  clear hrp hrs hrw
  have a0 := cel A0.out 0 rfl
  have b0 := cel A1.out 0 rfl
  have a1 := cel A0.out 1 rfl
  have b1 := cel A1.out 1 rfl
  have a2 := cel A0.out 2 rfl
  have b2 := cel A1.out 2 rfl
  have a3 := cel A0.out 3 rfl
  have b3 := cel A1.out 3 rfl
  have a4 := cel A0.out 4 rfl
  have b4 := cel A1.out 4 rfl
  have a5 := cel A0.out 5 rfl
  have b5 := cel A1.out 5 rfl
  have a6 := cel A0.out 6 rfl
  have b6 := cel A1.out 6 rfl
  have a7 := cel A0.out 7 rfl
  have b7 := cel A1.out 7 rfl
  have a8 := cel A0.out 8 rfl
  have b8 := cel A1.out 8 rfl
  have a9 := cel A0.out 9 rfl
  have b9 := cel A1.out 9 rfl
  have a10 := cel A0.out 10 rfl
  have b10 := cel A1.out 10 rfl
  have a11 := cel A0.out 11 rfl
  have b11 := cel A1.out 11 rfl
  have a12 := cel A0.out 12 rfl
  have b12 := cel A1.out 12 rfl
  by_cases e1 : akd = bkd
  · subst e1
    go_enter Tryd.func42, Tryd.ntmps42
    go_wp2_with fail
    rw [← HW.out]
    refine (sameStrs_any _ _ apath bpath W (P1.out _ (Below.refl _ _)) (Q1.out _ (Below.refl _ _)) rp RP.out).mono ?_
    rintro e w1 ⟨rfl, hb1⟩
    have HB1 := Lib.hid hb1
    clear hb1 a0 b0 a1 b1 a2 b2 a3 b3 a4 b4 a5 b5 a6 b6 a7 b7 a8 b8 a9 b9 a10 b10 a11 b11 a12 b12
    have AA1 := Lib.hid (blk_below A0.out HB1.out (by have := HZ.out; omega))
    have AB1 := Lib.hid (blk_below A1.out HB1.out (by have := HZ.out; omega))
    have a0 := cel AA1.out 0 rfl
    have a1 := cel AA1.out 1 rfl
    have a2 := cel AA1.out 2 rfl
    have a3 := cel AA1.out 3 rfl
    have a4 := cel AA1.out 4 rfl
    have a5 := cel AA1.out 5 rfl
    have a6 := cel AA1.out 6 rfl
    have a7 := cel AA1.out 7 rfl
    have a8 := cel AA1.out 8 rfl
    have a9 := cel AA1.out 9 rfl
    have a10 := cel AA1.out 10 rfl
    have a11 := cel AA1.out 11 rfl
    have a12 := cel AA1.out 12 rfl
    have b0 := cel AB1.out 0 rfl
    have b1 := cel AB1.out 1 rfl
    have b2 := cel AB1.out 2 rfl
    have b3 := cel AB1.out 3 rfl
    have b4 := cel AB1.out 4 rfl
    have b5 := cel AB1.out 5 rfl
    have b6 := cel AB1.out 6 rfl
    have b7 := cel AB1.out 7 rfl
    have b8 := cel AB1.out 8 rfl
    have b9 := cel AB1.out 9 rfl
    have b10 := cel AB1.out 10 rfl
    have b11 := cel AB1.out 11 rfl
    have b12 := cel AB1.out 12 rfl
    cases rp
    · go_wp2_with fail
      go_ret
      exact ⟨by rw [← HE.out]; simp, B0.out.trans (HB1.out.mono B0.out.size)⟩
    · by_cases e2 : apl = bpl
      · subst e2
        by_cases e3 : anm = bnm
        · subst e3
          by_cases e4 : atn = btn
          · subst e4
            go_wp2_with fail
            refine (specSame_is _ _ _ RS.out _ _ _ (P2.out _ HB1.out) (Q2.out _ HB1.out)).mono ?_
            rintro e w2 ⟨rfl, hb2⟩
            have HB2 := Lib.hid (HB1.out.trans (hb2.mono HB1.out.size))
            clear hb2 a0 b0 a1 b1 a2 b2 a3 b3 a4 b4 a5 b5 a6 b6 a7 b7 a8 b8 a9 b9 a10 b10 a11 b11 a12 b12
            have AA2 := Lib.hid (blk_below A0.out HB2.out (by have := HZ.out; omega))
            have AB2 := Lib.hid (blk_below A1.out HB2.out (by have := HZ.out; omega))
            have a0 := cel AA2.out 0 rfl
            have a1 := cel AA2.out 1 rfl
            have a2 := cel AA2.out 2 rfl
            have a3 := cel AA2.out 3 rfl
            have a4 := cel AA2.out 4 rfl
            have a5 := cel AA2.out 5 rfl
            have a6 := cel AA2.out 6 rfl
            have a7 := cel AA2.out 7 rfl
            have a8 := cel AA2.out 8 rfl
            have a9 := cel AA2.out 9 rfl
            have a10 := cel AA2.out 10 rfl
            have a11 := cel AA2.out 11 rfl
            have a12 := cel AA2.out 12 rfl
            have b0 := cel AB2.out 0 rfl
            have b1 := cel AB2.out 1 rfl
            have b2 := cel AB2.out 2 rfl
            have b3 := cel AB2.out 3 rfl
            have b4 := cel AB2.out 4 rfl
            have b5 := cel AB2.out 5 rfl
            have b6 := cel AB2.out 6 rfl
            have b7 := cel AB2.out 7 rfl
            have b8 := cel AB2.out 8 rfl
            have b9 := cel AB2.out 9 rfl
            have b10 := cel AB2.out 10 rfl
            have b11 := cel AB2.out 11 rfl
            have b12 := cel AB2.out 12 rfl
            cases rs
            · go_wp2_with fail
              go_ret
              exact ⟨by rw [← HE.out]; simp, B0.out.trans (HB2.out.mono B0.out.size)⟩
            · go_wp2_with fail
              refine (specSame_is _ _ _ RW.out _ _ _ (P3.out _ HB2.out) (Q3.out _ HB2.out)).mono ?_
              rintro e w3 ⟨rfl, hb3⟩
              have HB3 := Lib.hid (HB2.out.trans (hb3.mono HB2.out.size))
              clear hb3 a0 b0 a1 b1 a2 b2 a3 b3 a4 b4 a5 b5 a6 b6 a7 b7 a8 b8 a9 b9 a10 b10 a11 b11 a12 b12
              have AA3 := Lib.hid (blk_below A0.out HB3.out (by have := HZ.out; omega))
              have AB3 := Lib.hid (blk_below A1.out HB3.out (by have := HZ.out; omega))
              have a0 := cel AA3.out 0 rfl
              have a1 := cel AA3.out 1 rfl
              have a2 := cel AA3.out 2 rfl
              have a3 := cel AA3.out 3 rfl
              have a4 := cel AA3.out 4 rfl
              have a5 := cel AA3.out 5 rfl
              have a6 := cel AA3.out 6 rfl
              have a7 := cel AA3.out 7 rfl
              have a8 := cel AA3.out 8 rfl
              have a9 := cel AA3.out 9 rfl
              have a10 := cel AA3.out 10 rfl
              have a11 := cel AA3.out 11 rfl
              have a12 := cel AA3.out 12 rfl
              have b0 := cel AB3.out 0 rfl
              have b1 := cel AB3.out 1 rfl
              have b2 := cel AB3.out 2 rfl
              have b3 := cel AB3.out 3 rfl
              have b4 := cel AB3.out 4 rfl
              have b5 := cel AB3.out 5 rfl
              have b6 := cel AB3.out 6 rfl
              have b7 := cel AB3.out 7 rfl
              have b8 := cel AB3.out 8 rfl
              have b9 := cel AB3.out 9 rfl
              have b10 := cel AB3.out 10 rfl
              have b11 := cel AB3.out 11 rfl
              have b12 := cel AB3.out 12 rfl
              go_wp2_with fail
              go_ret
              exact ⟨by rw [← HE.out]; simp, B0.out.trans (HB3.out.mono B0.out.size)⟩
          · have hq : (atn.toList == btn.toList) = false := ba_ne e4
            go_wp2_with fail
            go_ret
            exact ⟨by rw [← HE.out]; simp [e4], B0.out.trans (HB1.out.mono B0.out.size)⟩
        · have hq : (anm.toList == bnm.toList) = false := ba_ne e3
          go_wp2_with fail
          go_ret
          exact ⟨by rw [← HE.out]; simp [e3], B0.out.trans (HB1.out.mono B0.out.size)⟩
      · have hq : (apl == bpl) = false := by simpa using e2
        go_wp2_with fail
        go_ret
        exact ⟨by rw [← HE.out]; simp [e2], B0.out.trans (HB1.out.mono B0.out.size)⟩
  · have hq : (akd == bkd) = false := by simpa using e1
    go_enter Tryd.func42, Tryd.ntmps42
    go_wp2_with fail
    rw [← HW.out]
    go_ret
    exact ⟨by rw [← HE.out]; simp [e1], B0.out⟩
end Go.Proofs.YtfdhmkmeffgkgaaDoor
namespace Go.Proofs.YtfdhmkmeffgkgaaDoor
open Go.RowKit

set_option maxRecDepth 100000 in
set_option maxHeartbeats 4000000 in
theorem comes_is (a b : Ed) (r : Bool) (hr : goesB a b = r) (v u : Value) (w : World) (hok : edOk a = true) (h : IsEd w a v) (g : IsEd w b u) (hek : EkAt w) :
    Calls Tryd.prog 63 #[v, u] w fun e w' => e = .returned (.bool r) ∧ Below w.heap.size w w' := by
  have HA := Lib.hid h
  have HB := Lib.hid g
  obtain ⟨p0, p1, p2, p3, p4, p5, p6, p7, p8, p9, p10, p11, p12, p13, p14, p15, p16, p17, p18, p19, rfl, _, _, _, _, _, _, _⟩ := h
  obtain ⟨q0, q1, q2, q3, q4, q5, q6, q7, q8, q9, q10, q11, q12, q13, q14, q15, q16, q17, q18, q19, rfl, _, _, _, _, _, _, _⟩ := g
  obtain ⟨_, _, _, _, s5, s6⟩ := ed_small hok
  have HC5 : Hid (CpOk (undoneR a).sh) := by unfold undoneR; show CpOk (if _ then _ else _); split; exact s6; exact s5
  have HC6 : Hid (CpOk (undoneR a).ws) := by unfold undoneR; show CpOk (if _ then _ else _); split; exact s5; exact s6
  have HOK := Lib.hid hok
  obtain ⟨W, hW⟩ : ∃ W, W = (w.alloc (.cells #[.int .i64 a.kd, .slice p0 a.path.length p1, .int .i64 a.pl, .string a.nm, .string a.tn, .int .i64 a.sh.kd, .slice p2 p3 p4, .slice p5 p6 p7, .slice p8 p9 p10, .int .i64 a.ws.kd, .slice p11 p12 p13, .slice p14 p15 p16, .slice p17 p18 p19] 33)).alloc (.cells #[.int .i64 b.kd, .slice q0 b.path.length q1, .int .i64 b.pl, .string b.nm, .string b.tn, .int .i64 b.sh.kd, .slice q2 q3 q4, .slice q5 q6 q7, .slice q8 q9 q10, .int .i64 b.ws.kd, .slice q11 q12 q13, .slice q14 q15 q16, .slice q17 q18 q19] 33) := ⟨_, rfl⟩
  obtain ⟨x0, x1⟩ := two_new w (.cells #[.int .i64 a.kd, .slice p0 a.path.length p1, .int .i64 a.pl, .string a.nm, .string a.tn, .int .i64 a.sh.kd, .slice p2 p3 p4, .slice p5 p6 p7, .slice p8 p9 p10, .int .i64 a.ws.kd, .slice p11 p12 p13, .slice p14 p15 p16, .slice p17 p18 p19] 33) (.cells #[.int .i64 b.kd, .slice q0 b.path.length q1, .int .i64 b.pl, .string b.nm, .string b.tn, .int .i64 b.sh.kd, .slice q2 q3 q4, .slice q5 q6 q7, .slice q8 q9 q10, .int .i64 b.ws.kd, .slice q11 q12 q13, .slice q14 q15 q16, .slice q17 q18 q19] 33)
  have hb : Below w.heap.size w W := by rw [hW]; exact (below_alloc w _).alloc (by simp) _
  have hz : W.heap.size = w.heap.size + 1 + 1 := by rw [hW]; simp
  rw [← hW] at x0 x1
  have A0 := Lib.hid x0
  have A1 := Lib.hid x1
  have B0 := Lib.hid hb
  have HZ := Lib.hid hz
  have HW := Lib.hid hW
  have HR := Lib.hid hr
  have KA := Lib.hid (fun (w' : World) (hb' : Below W.heap.size W w') => HA.out.keep (Keeps.of_below (hb.trans (hb'.mono hb.size))))
  have KB := Lib.hid (fun (w' : World) (hb' : Below W.heap.size W w') => HB.out.keep (Keeps.of_below (hb.trans (hb'.mono hb.size))))
  have EK := Lib.hid (fun (w' : World) (hb' : Below W.heap.size W w') => hek.keep (Keeps.of_below (hb.trans (hb'.mono hb.size))))
  have HSK : Hid (∀ w', Below W.heap.size W w' → (w'.cell? ⟨w.heap.size, 0, none⟩ = some (.int .i64 a.kd) ∧ w'.cell? ⟨w.heap.size, 1, none⟩ = some (.slice p0 a.path.length p1) ∧ w'.cell? ⟨w.heap.size, 2, none⟩ = some (.int .i64 a.pl) ∧ w'.cell? ⟨w.heap.size, 3, none⟩ = some (.string a.nm) ∧ w'.cell? ⟨w.heap.size, 4, none⟩ = some (.string a.tn) ∧ w'.cell? ⟨w.heap.size, 5, none⟩ = some (.int .i64 a.sh.kd) ∧ w'.cell? ⟨w.heap.size, 6, none⟩ = some (.slice p2 p3 p4) ∧ w'.cell? ⟨w.heap.size, 7, none⟩ = some (.slice p5 p6 p7) ∧ w'.cell? ⟨w.heap.size, 8, none⟩ = some (.slice p8 p9 p10) ∧ w'.cell? ⟨w.heap.size, 9, none⟩ = some (.int .i64 a.ws.kd) ∧ w'.cell? ⟨w.heap.size, 10, none⟩ = some (.slice p11 p12 p13) ∧ w'.cell? ⟨w.heap.size, 11, none⟩ = some (.slice p14 p15 p16) ∧ w'.cell? ⟨w.heap.size, 12, none⟩ = some (.slice p17 p18 p19) ∧ w'.cell? ⟨w.heap.size + 1, 0, none⟩ = some (.int .i64 b.kd) ∧ w'.cell? ⟨w.heap.size + 1, 1, none⟩ = some (.slice q0 b.path.length q1) ∧ w'.cell? ⟨w.heap.size + 1, 2, none⟩ = some (.int .i64 b.pl) ∧ w'.cell? ⟨w.heap.size + 1, 3, none⟩ = some (.string b.nm) ∧ w'.cell? ⟨w.heap.size + 1, 4, none⟩ = some (.string b.tn) ∧ w'.cell? ⟨w.heap.size + 1, 5, none⟩ = some (.int .i64 b.sh.kd) ∧ w'.cell? ⟨w.heap.size + 1, 6, none⟩ = some (.slice q2 q3 q4) ∧ w'.cell? ⟨w.heap.size + 1, 7, none⟩ = some (.slice q5 q6 q7) ∧ w'.cell? ⟨w.heap.size + 1, 8, none⟩ = some (.slice q8 q9 q10) ∧ w'.cell? ⟨w.heap.size + 1, 9, none⟩ = some (.int .i64 b.ws.kd) ∧ w'.cell? ⟨w.heap.size + 1, 10, none⟩ = some (.slice q11 q12 q13) ∧ w'.cell? ⟨w.heap.size + 1, 11, none⟩ = some (.slice q14 q15 q16) ∧ w'.cell? ⟨w.heap.size + 1, 12, none⟩ = some (.slice q17 q18 q19))) := fun w' hb' => by
    have kk : ∀ b o c, b < W.heap.size → W.cell? ⟨b, o, none⟩ = some c → w'.cell? ⟨b, o, none⟩ = some c := fun b o c hlt hc => by rw [hb'.cell (p := ⟨b, o, none⟩) hlt]; exact hc
    have az := (Array.getElem?_eq_some_iff.1 A0.out).1
    have bz := (Array.getElem?_eq_some_iff.1 A1.out).1
    exact ⟨kk _ _ _ az (cel A0.out 0 rfl), kk _ _ _ az (cel A0.out 1 rfl), kk _ _ _ az (cel A0.out 2 rfl), kk _ _ _ az (cel A0.out 3 rfl), kk _ _ _ az (cel A0.out 4 rfl), kk _ _ _ az (cel A0.out 5 rfl), kk _ _ _ az (cel A0.out 6 rfl), kk _ _ _ az (cel A0.out 7 rfl), kk _ _ _ az (cel A0.out 8 rfl), kk _ _ _ az (cel A0.out 9 rfl), kk _ _ _ az (cel A0.out 10 rfl), kk _ _ _ az (cel A0.out 11 rfl), kk _ _ _ az (cel A0.out 12 rfl), kk _ _ _ bz (cel A1.out 0 rfl), kk _ _ _ bz (cel A1.out 1 rfl), kk _ _ _ bz (cel A1.out 2 rfl), kk _ _ _ bz (cel A1.out 3 rfl), kk _ _ _ bz (cel A1.out 4 rfl), kk _ _ _ bz (cel A1.out 5 rfl), kk _ _ _ bz (cel A1.out 6 rfl), kk _ _ _ bz (cel A1.out 7 rfl), kk _ _ _ bz (cel A1.out 8 rfl), kk _ _ _ bz (cel A1.out 9 rfl), kk _ _ _ bz (cel A1.out 10 rfl), kk _ _ _ bz (cel A1.out 11 rfl), kk _ _ _ bz (cel A1.out 12 rfl)⟩
  obtain ⟨lb, hlb⟩ : ∃ lb, losesB a = lb := ⟨_, rfl⟩
  have HL := Lib.hid hlb
  clear s5 s6 hok x0 x1 hb hz hW hr hek hlb
  cases lb
  · have HG : Hid (edEq (undoneR a) b = r) := by show _ = _; rw [← HR.out]; unfold goesB; rw [HL.out]; rfl
    go_enter Tryd.func63, Tryd.ntmps63
    go_upto_region 1 with fail
    rw [← HW.out]
    go_region_held3 (fun w' => w'.cell? ⟨w.heap.size, 0, none⟩ = some (.int .i64 a.kd) ∧ w'.cell? ⟨w.heap.size, 1, none⟩ = some (.slice p0 a.path.length p1) ∧ w'.cell? ⟨w.heap.size, 2, none⟩ = some (.int .i64 a.pl) ∧ w'.cell? ⟨w.heap.size, 3, none⟩ = some (.string a.nm) ∧ w'.cell? ⟨w.heap.size, 4, none⟩ = some (.string a.tn) ∧ w'.cell? ⟨w.heap.size, 5, none⟩ = some (.int .i64 a.sh.kd) ∧ w'.cell? ⟨w.heap.size, 6, none⟩ = some (.slice p2 p3 p4) ∧ w'.cell? ⟨w.heap.size, 7, none⟩ = some (.slice p5 p6 p7) ∧ w'.cell? ⟨w.heap.size, 8, none⟩ = some (.slice p8 p9 p10) ∧ w'.cell? ⟨w.heap.size, 9, none⟩ = some (.int .i64 a.ws.kd) ∧ w'.cell? ⟨w.heap.size, 10, none⟩ = some (.slice p11 p12 p13) ∧ w'.cell? ⟨w.heap.size, 11, none⟩ = some (.slice p14 p15 p16) ∧ w'.cell? ⟨w.heap.size, 12, none⟩ = some (.slice p17 p18 p19) ∧ w'.cell? ⟨w.heap.size + 1, 0, none⟩ = some (.int .i64 b.kd) ∧ w'.cell? ⟨w.heap.size + 1, 1, none⟩ = some (.slice q0 b.path.length q1) ∧ w'.cell? ⟨w.heap.size + 1, 2, none⟩ = some (.int .i64 b.pl) ∧ w'.cell? ⟨w.heap.size + 1, 3, none⟩ = some (.string b.nm) ∧ w'.cell? ⟨w.heap.size + 1, 4, none⟩ = some (.string b.tn) ∧ w'.cell? ⟨w.heap.size + 1, 5, none⟩ = some (.int .i64 b.sh.kd) ∧ w'.cell? ⟨w.heap.size + 1, 6, none⟩ = some (.slice q2 q3 q4) ∧ w'.cell? ⟨w.heap.size + 1, 7, none⟩ = some (.slice q5 q6 q7) ∧ w'.cell? ⟨w.heap.size + 1, 8, none⟩ = some (.slice q8 q9 q10) ∧ w'.cell? ⟨w.heap.size + 1, 9, none⟩ = some (.int .i64 b.ws.kd) ∧ w'.cell? ⟨w.heap.size + 1, 10, none⟩ = some (.slice q11 q12 q13) ∧ w'.cell? ⟨w.heap.size + 1, 11, none⟩ = some (.slice q14 q15 q16) ∧ w'.cell? ⟨w.heap.size + 1, 12, none⟩ = some (.slice q17 q18 q19))
      (first
        | with_reducible exact HSK.out _ BB3.out
        | with_reducible exact HSK.out _ BB2.out
        | with_reducible exact HSK.out _ BB1.out
        | with_reducible exact HSK.out _ (Below.refl _ W).drew)
      (first
        | (go_at_call 71; (with_reducible show Go.Calls _ _ _ (W.drew) _); refine (implLoses_is a false HL.out _ W.drew (KA.out _ (Below.refl _ W).drew) (EK.out _ (Below.refl _ W).drew)).mono ?_; rintro e w1 ⟨rfl, hb1⟩; have hbb : Below W.heap.size W w1 := (Below.refl _ W).drew.trans hb1; have BB1 := Lib.hid hbb; clear hb1 hbb)
        | (go_at_call 29; (with_reducible show Go.Calls _ _ _ (w1) _); refine (und_cut a _ w1 HOK.out (KA.out _ BB1.out) (EK.out _ BB1.out)).mono ?_; rintro e w2 ⟨v2, F2, rfl, ho, hn, hb2⟩; have HO := Lib.hid ho; have HN := Lib.hid hn; have BB2 := Lib.hid (BB1.out.trans (hb2.mono BB1.out.size)); clear ho hn hb2)
        | (go_at_call 72; (with_reducible show Go.Calls _ _ _ (w2) _); refine (alike_is (undoneR a) b _ rfl _ _ w2 _ _ HO.out HN.out HC5.out HC6.out (KB.out _ BB2.out)).mono ?_; rintro e w3 ⟨rfl, hb3⟩; have BB3 := Lib.hid (BB2.out.trans (hb3.mono BB2.out.size)); clear hb3)
        | fail)
    all_goals
      go_wp2_with fail
      go_ret
      exact ⟨by rw [← HG.out]; rfl, B0.out.trans (BB3.out.mono B0.out.size)⟩
  · have HG : Hid (false = r) := by show _ = _; rw [← HR.out]; unfold goesB; rw [HL.out]; rfl
    have a0 := cel A0.out 0 rfl
    have a1 := cel A0.out 1 rfl
    have a2 := cel A0.out 2 rfl
    have a3 := cel A0.out 3 rfl
    have a4 := cel A0.out 4 rfl
    have a5 := cel A0.out 5 rfl
    have a6 := cel A0.out 6 rfl
    have a7 := cel A0.out 7 rfl
    have a8 := cel A0.out 8 rfl
    have a9 := cel A0.out 9 rfl
    have a10 := cel A0.out 10 rfl
    have a11 := cel A0.out 11 rfl
    have a12 := cel A0.out 12 rfl
    go_enter Tryd.func63, Tryd.ntmps63
    go_upto_region 1 with fail
    rw [← HW.out]
    first
    | go_region_with (first
        | (go_at_call 71; (with_reducible show Go.Calls _ _ _ (W.drew) _); refine (implLoses_is a true HL.out _ W.drew (KA.out _ (Below.refl _ W).drew) (EK.out _ (Below.refl _ W).drew)).mono ?_; rintro e w1 ⟨rfl, hb1⟩; have hbb : Below W.heap.size W w1 := (Below.refl _ W).drew.trans hb1; have BB1 := Lib.hid hbb; clear hb1 hbb)
        | fail)
    | fail
    all_goals
      go_wp2_with fail
      go_ret
      exact ⟨by rw [← HG.out]; rfl, B0.out.trans (BB1.out.mono B0.out.size)⟩
end Go.Proofs.YtfdhmkmeffgkgaaDoor
