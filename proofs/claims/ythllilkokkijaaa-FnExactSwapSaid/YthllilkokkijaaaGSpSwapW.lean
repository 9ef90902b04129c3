/- Walks: spec.l06Swap. -/
import Derived.Test.YthllilkokkijaaaGSwapQ
import Derived.Test.YthllilkokkijaaaGSpPathW
import Derived.Test.YthllilkokkijaaaGCopyShW
import Derived.Test.YthllilkokkijaaaGTwoP
import Derived.Test.YthllilkokkijaaaGCopySpW
import Derived.Deep.RegionHeld3
namespace Go.Proofs.Ythllilkokkijaaa
open Go.RowKit

/-- l06Swap's contract at a path. -/
def SsAt (p : List ByteArray) : Prop := ∀ (t x u : Sh) (d dx : Nat) (v vp vx : Value) (w : World), partOk d t = true → partOk dx x = true → partP p t = some u → IsSh w t v → IsStrs w vp p → IsSh w x vx →
  Calls Try.prog 43 #[v, vp, vx] w (ToPost (swapR p t x) w)

set_option maxRecDepth 100000 in
set_option maxHeartbeats 1000000 in
theorem ss_nil : SsAt [] := by
  intro t x u d dx v vp vx w hd hdx hpu h hp hx
  have HX := Lib.hid hx
  obtain ⟨p1, n1, m1, p2, n2, m2, p3, n3, m3, rfl⟩ := h.agg
  obtain ⟨r1, i1, j1, r2, i2, j2, r3, i3, j3, rfl⟩ := hx.agg
  obtain ⟨_, _, a, cap, rfl, _, _, _⟩ := hp
  obtain ⟨W, hW⟩ : ∃ W, W = ((w.alloc (.cells #[.int .i64 t.kd, .slice p1 n1 m1, .slice p2 n2 m2, .slice p3 n3 m3] 30)).alloc (.cells #[.int .i64 x.kd, .slice r1 i1 j1, .slice r2 i2 j2, .slice r3 i3 j3] 30)).alloc (.cells #[.int .i64 0, .slice none 0 0, .slice none 0 0, .slice none 0 0] 30) := ⟨_, rfl⟩
  obtain ⟨x0, x1, x2⟩ := three_new w (.cells #[.int .i64 t.kd, .slice p1 n1 m1, .slice p2 n2 m2, .slice p3 n3 m3] 30) (.cells #[.int .i64 x.kd, .slice r1 i1 j1, .slice r2 i2 j2, .slice r3 i3 j3] 30) (.cells #[.int .i64 0, .slice none 0 0, .slice none 0 0, .slice none 0 0] 30)
  have hb : Below w.heap.size w W := by rw [hW]; exact ((below_alloc w _).alloc (by simp) _).alloc (by simp; omega) _
  have hz : W.heap.size = w.heap.size + 1 + 1 + 1 := by rw [hW]; simp
  rw [← hW] at x2
  have X2 := Lib.hid x2
  have HB := Lib.hid hb
  have HZ := Lib.hid hz
  have HW := Lib.hid hW
  clear h hx x0 x1 x2 hb hz hW hpu
  go_enter Try.func43, Try.ntmps43
  go_wp2_with fail
  rw [← HW.out]
  refine (cs_any dx x _ W hdx (IsSh.keep (Keeps.of_below HB.out) _ _ HX.out)).mono ?_
  rintro e w1 ⟨c0, c1, c2, c3, F, rfl, ho, hn, hb1⟩
  obtain ⟨k1, l1, o1, k2, l2, o2, k3, o3, rfl, rfl, rfl, rfl⟩ := cells3 (OwnSh.is _ _ _ ho)
  have HO := Lib.hid ho
  have HN := Lib.hid hn
  have B1 := Lib.hid (HB.out.trans (hb1.mono HB.out.size))
  obtain ⟨y0, y1, y2, y3, f0, f1, f2, f3, yz⟩ := blk4 (blk_below X2.out hb1 (by have := HZ.out; omega))
  clear ho hn hb1
  go_wp2_with fail
  refine bodyPost_ret (v := .agg #[.int .i64 x.kd, .slice k1 l1 o1, .slice k2 l2 o2, .slice k3 x.su.length o3]) (by simp [results, Try.results43, go_sem, *]) rfl ?_
  refine ⟨_, _, _, _, F, rfl, ?_, HN.out, putS_below B1.out (by omega) _ _ _ _⟩
  simp only [swapR]
  exact OwnSh.move HB.out.size _ _ _ (fun g hg => putS_other _ _ _ _ _ _ (by have := OwnSh.blocks _ _ _ HO.out g hg; have := HZ.out; omega)) HO.out

set_option maxRecDepth 100000 in
set_option maxHeartbeats 2000000 in
theorem ss_cons (s : ByteArray) (p : List ByteArray) (ih : SsAt p) : SsAt (s :: p) := by
  intro t x u d dx v vp vx w hd hdx hpu h hp hx
  have HH := Lib.hid h
  have HX := Lib.hid hx
  have HP := Lib.hid hp
  have HD := Lib.hid hd
  have HDX := Lib.hid hdx
  obtain ⟨n, hq, hlt, hpu2, d2, hd2⟩ : ∃ (n : Nat) (_ : stepR t s = (n : Int)) (h : n < t.su.length), partP p t.su[n] = some u ∧ ∃ d2, partOk d2 t.su[n] = true := by
    simp only [partP] at hpu
    by_cases h0 : 0 ≤ stepR t s
    · obtain ⟨h1, h2, d', _, h3⟩ := child_at hd h0
      rw [h2] at hpu
      exact ⟨(stepR t s).toNat, by omega, h1, hpu, d', h3⟩
    · rw [child_no (by omega)] at hpu; cases hpu
  cases t with | mk k sy na su =>
  obtain ⟨p1, m1, p2, m2, p3, m3, rfl, hk, h1, h2, h3⟩ := h.open
  obtain ⟨r1, i1, j1, r2, i2, j2, r3, i3, j3, rfl⟩ := hx.agg
  obtain ⟨hpl, hps, a, cap, rfl, hpc, hpm, hpa⟩ := hp
  obtain ⟨sb, so, rfl, hsa⟩ := IsStrs.all hpa (k := 0) (by simp)
  obtain ⟨a3, cap3, e3, hl3, hc3, g3⟩ := h3
  simp only [Value.slice.injEq] at e3
  obtain ⟨rfl, _, rfl⟩ := e3
  simp only [Sh.su] at hlt hpu2 hd2
  obtain ⟨b2, q2, rfl, s0, s1, s2, s3, t0, t1, t2, t3, t4⟩ := IsShs.at g3 hlt
  obtain ⟨W, hW⟩ : ∃ W, W = ((w.alloc (.cells #[.int .i64 k, .slice p1 sy.length m1, .slice p2 na.length m2, .slice (some ⟨b2, q2, none⟩) su.length m3] 30)).alloc (.cells #[.int .i64 x.kd, .slice r1 i1 j1, .slice r2 i2 j2, .slice r3 i3 j3] 30)).alloc (.cells #[.int .i64 0, .slice none 0 0, .slice none 0 0, .slice none 0 0] 30) := ⟨_, rfl⟩
  obtain ⟨x0, x1, x2⟩ := three_new w (.cells #[.int .i64 k, .slice p1 sy.length m1, .slice p2 na.length m2, .slice (some ⟨b2, q2, none⟩) su.length m3] 30) (.cells #[.int .i64 x.kd, .slice r1 i1 j1, .slice r2 i2 j2, .slice r3 i3 j3] 30) (.cells #[.int .i64 0, .slice none 0 0, .slice none 0 0, .slice none 0 0] 30)
  have hb : Below w.heap.size w W := by rw [hW]; exact ((below_alloc w _).alloc (by simp) _).alloc (by simp; omega) _
  have hz : W.heap.size = w.heap.size + 1 + 1 + 1 := by rw [hW]; simp
  rw [← hW] at x0 x1 x2
  have X0 := Lib.hid x0
  have X1 := Lib.hid x1
  have X2 := Lib.hid x2
  have HB := Lib.hid hb
  have HZ := Lib.hid hz
  have HW := Lib.hid hW
  have HQ := Lib.hid hq
  have HPU := Lib.hid hpu2
  have HD2 := Lib.hid hd2
  have HSA := Lib.hid hsa
  have IH := Lib.hid ih
  have hl3' : p.length + 1 ≤ cap := by simpa using hpc
  obtain ⟨V, hV, HVS⟩ : ∃ V, (if cap = 1 then V = Value.slice (some ⟨sb, so, none⟩) p.length 0 else V = Value.slice (some ⟨sb, so + 1, none⟩) p.length (cap - 1)) ∧ Hid (IsStrs w V p) := by
    by_cases hcn : cap = 1
    · refine ⟨_, by rw [if_pos hcn], ?_⟩
      have hp0 : p.length = 0 := by omega
      obtain rfl := List.eq_nil_of_length_eq_zero hp0
      exact ⟨by simp, by simp, some ⟨sb, so, none⟩, 0, rfl, by simp, by simp, .inl rfl⟩
    · refine ⟨_, by rw [if_neg hcn], ?_⟩
      refine ⟨by simp at hpl; omega, fun x hx => hps x (by simp [hx]), some ⟨sb, so + 1, none⟩, cap - 1, rfl, by omega, by omega, .inr ⟨sb, so + 1, rfl, fun i hi => ?_⟩⟩
      have := HSA.out (i + 1) (by simpa using hi)
      have e : so + (i + 1) = so + 1 + i := by omega
      rw [e, List.getElem_cons_succ] at this
      exact this
  have HV := Lib.hid hV
  have HCP := Lib.hid hl3'
  obtain ⟨g1, g2, g3', g4, g5, g6, g7, g8, g9, rfl, rfl, rfl, rfl⟩ := t4.cells
  have HT := Lib.hid (And.intro t0 (And.intro t1 (And.intro t2 (And.intro t3 t4))))
  have hlp : (((p.length : Int) + 1) == 0) = false := by simp; omega
  clear h hx x0 x1 x2 hb hz hW hpu hq hpu2 hd2 hsa t0 t1 t2 t3 t4 h1 h2 hps hpa g3 hV hl3' hpc hpm hpl
  go_enter Try.func43, Try.ntmps43
  go_wp2_with fail
  rw [← HW.out]
  refine (cs_any d (.mk k sy na su) _ W HD.out (IsSh.keep (Keeps.of_below HB.out) _ _ HH.out)).mono ?_
  rintro e w1 ⟨c0, c1, c2, c3, F, rfl, ho, hn, hb1⟩
  obtain ⟨vs, vn, vr, cs, Fs, he, _, o4, o5, o6, o7, hFe⟩ := ho.parts
  simp only [Value.agg.injEq, Array.mk.injEq, List.cons.injEq, and_true] at he
  obtain ⟨rfl, rfl, rfl, rfl⟩ := he
  obtain ⟨k1, l1, y1, rfl⟩ := o4.is.slice
  obtain ⟨k2, l2, y2, rfl⟩ := o5.is.slice
  rcases o6.2 with ⟨_, h0⟩ | ⟨g, y3, cur, rfl, hgb, hg, hr⟩
  · omega
  obtain ⟨e0, e1, e2, e3, _, g0, g1, g2, g3, _⟩ := o7.at n hlt
  have hgF : g ∈ F := by rw [hFe]; simp [blkOf]
  have hgl := OwnSh.blocks _ _ _ ho g hgF
  have z0 := o6.cellAt (n * 4) (by omega)
  have z1 := o6.cellAt (n * 4 + 1) (by omega)
  have z2 := o6.cellAt (n * 4 + 2) (by omega)
  have z3 := o6.cellAt (n * 4 + 3) (by omega)
  rw [g0] at z0
  rw [g1] at z1
  rw [g2] at z2
  rw [g3] at z3
  obtain ⟨w2, hw⟩ : ∃ w', w' = w1.alloc (.cells #[.int .i64 k, .slice k1 l1 y1, .slice k2 l2 y2, .slice (some ⟨g, 0, none⟩) su.length y3] 30) := ⟨_, rfl⟩
  have hba : Below w1.heap.size w1 w2 := by rw [hw]; exact below_alloc _ _
  have hbb := hb1.trans (hba.mono hb1.size)
  have V2 := Lib.hid (show w2.heap[w1.heap.size]? = some (.cells #[.int .i64 k, .slice k1 l1 y1, .slice k2 l2 y2, .slice (some ⟨g, 0, none⟩) su.length y3] 30 (0, 0)) by rw [hw]; exact Go.Deep.blk_alloc_new _ _)
  have HO : Hid (OwnSh w2 W.heap.size (.mk k sy na su) _ F) := OwnSh.move (Nat.le_refl _) _ _ _ (fun g hg => hba.block g (OwnSh.blocks _ _ _ ho g hg).2) ho
  have HN := Lib.hid hn
  have HF := Lib.hid (fun g hg => OwnSh.blocks _ _ _ ho g hg)
  have B2 := Lib.hid (HB.out.trans (hbb.mono HB.out.size))
  have A2 := Lib.hid (blk_below X0.out hbb (by have := HZ.out; omega))
  have C2 := Lib.hid (blk_below X1.out hbb (by have := HZ.out; omega))
  have Y2 := Lib.hid (blk_below X2.out hbb (by have := HZ.out; omega))
  have kk := Keeps.of_below hba
  have HR := Lib.hid (And.intro (kk _ _ _ z0) (And.intro (kk _ _ _ z1) (And.intro (kk _ _ _ z2) (kk _ _ _ z3))))
  have HG := Lib.hid (And.intro hgl (And.intro hb1.size (Array.getElem?_eq_some_iff.1 V2.out).1))
  have hle : Leads w2 [s] (.mk k sy na su) w1.heap.size 0 su[n] g (0 + n * 4) := .cons hlt HQ.out (blk4 V2.out).2.2.2.1 (.nil _ _ _)
  rw [Nat.zero_add] at hle
  have HL := Lib.hid hle
  clear hle
  have HW2 := Lib.hid hw
  have hsc : w2.cell? ⟨sb, so, none⟩ = some (.string s) := Keeps.of_below B2.out _ _ _ (HSA.out 0 (by simp))
  obtain ⟨a0, a1, a2, a3, _, _, _, _, az⟩ := blk4 A2.out
  clear ho hn hb1 hba hbb hw kk z0 z1 z2 z3 g0 g1 g2 g3 hr hg hgb o4 o5 o6 o7 hFe hgF hgl
  go_upto_region 4 with fail
  rw [← HW2.out]
  go_still_tail 4, (by kernel_rfl)
  change wpList _ _ _ _ _ w2.drew
  go_wp2_with fail
  refine (step_is (.mk k sy na su) s n HQ.out _ w2.drew (IsSh.keep (Keeps.of_below B2.out.drew) _ _ HH.out)).mono ?_
  rintro e w3 ⟨rfl, hb3⟩
  have BB3 : Hid (Below w2.heap.size w2 w3) := (Below.refl _ w2).drew.trans hb3
  clear hb3 a0 a1 a2 a3 az hsc
  have B3 := Lib.hid (B2.out.trans (BB3.out.mono B2.out.size))
  have A3 := Lib.hid (blk_below A2.out BB3.out (Array.getElem?_eq_some_iff.1 A2.out).1)
  have C3 := Lib.hid (blk_below C2.out BB3.out (Array.getElem?_eq_some_iff.1 C2.out).1)
  have Y3 := Lib.hid (blk_below Y2.out BB3.out (Array.getElem?_eq_some_iff.1 Y2.out).1)
  have V3 := Lib.hid (blk_below V2.out BB3.out (Array.getElem?_eq_some_iff.1 V2.out).1)
  have HSK : Hid (∀ w' : World, (∀ q, q < w3.heap.size → q ≠ g → w'.heap[q]? = w3.heap[q]?) → (w'.cell? ⟨w1.heap.size, 3, none⟩ = some (.slice (some ⟨g, 0, none⟩) su.length y3) ∧ w'.cell? ⟨w.heap.size, 3, none⟩ = some (.slice (some ⟨b2, q2, none⟩) su.length m3) ∧
      w'.cell? ⟨b2, q2 + n * 4, none⟩ = some (.int .i64 su[n].kd) ∧ w'.cell? ⟨b2, q2 + n * 4 + 1, none⟩ = some (.slice g1 g2 g3') ∧ w'.cell? ⟨b2, q2 + n * 4 + 2, none⟩ = some (.slice g4 g5 g6) ∧ w'.cell? ⟨b2, q2 + n * 4 + 3, none⟩ = some (.slice g7 g8 g9) ∧
      w'.cell? ⟨w.heap.size + 1, 0, none⟩ = some (.int .i64 x.kd) ∧ w'.cell? ⟨w.heap.size + 1, 1, none⟩ = some (.slice r1 i1 j1) ∧ w'.cell? ⟨w.heap.size + 1, 2, none⟩ = some (.slice r2 i2 j2) ∧ w'.cell? ⟨w.heap.size + 1, 3, none⟩ = some (.slice r3 i3 j3))) := fun w' hk => by
    have kk : ∀ b o c, w3.cell? ⟨b, o, none⟩ = some c → b ≠ g → w'.cell? ⟨b, o, none⟩ = some c := fun b o c hc hne => by
      have hz := World.block_lt_of_cell? w3 _ hc
      simp only [World.cell?, hk b hz hne] at hc ⊢; exact hc
    have hgl := HG.out
    have hz := HZ.out
    have hb2 := World.block_lt_of_cell? w _ HT.out.1
    have k3 := Keeps.of_below B3.out
    exact ⟨kk _ _ _ (blk4 V3.out).2.2.2.1 (by omega), kk _ _ _ (blk4 A3.out).2.2.2.1 (by omega), kk _ _ _ (k3 _ _ _ HT.out.1) (by simp at hb2; omega), kk _ _ _ (k3 _ _ _ HT.out.2.1) (by simp at hb2; omega), kk _ _ _ (k3 _ _ _ HT.out.2.2.1) (by simp at hb2; omega), kk _ _ _ (k3 _ _ _ HT.out.2.2.2.1) (by simp at hb2; omega),
      kk _ _ _ (blk4 C3.out).1 (by omega), kk _ _ _ (blk4 C3.out).2.1 (by omega), kk _ _ _ (blk4 C3.out).2.2.1 (by omega), kk _ _ _ (blk4 C3.out).2.2.2.1 (by omega)⟩
  have hlt4 : (n : Int) < su.length := by omega
  have hcap3 : (1 : Int) ≤ (p.length : Int) + 1 := by omega
  have hcap4 : ¬ (p.length : Int) + 1 < 1 := by omega
  go_upto_region 5 with fail
  by_cases hcn : cap = 1
  all_goals
    first
      | (have hV := HV.out; rw [if_pos hcn] at hV; subst hV; subst hcn)
      | (have hV := HV.out; rw [if_neg hcn] at hV; subst hV; have hcap1 : p.length + 1 ≤ cap := HCP.out; have hcap2 : (p.length : Int) + 1 ≤ cap := by omega)
    go_region_held3 (fun w' => w'.cell? ⟨w1.heap.size, 3, none⟩ = some (.slice (some ⟨g, 0, none⟩) su.length y3) ∧ w'.cell? ⟨w.heap.size, 3, none⟩ = some (.slice (some ⟨b2, q2, none⟩) su.length m3) ∧
      w'.cell? ⟨b2, q2 + n * 4, none⟩ = some (.int .i64 su[n].kd) ∧ w'.cell? ⟨b2, q2 + n * 4 + 1, none⟩ = some (.slice g1 g2 g3') ∧ w'.cell? ⟨b2, q2 + n * 4 + 2, none⟩ = some (.slice g4 g5 g6) ∧ w'.cell? ⟨b2, q2 + n * 4 + 3, none⟩ = some (.slice g7 g8 g9) ∧
      w'.cell? ⟨w.heap.size + 1, 0, none⟩ = some (.int .i64 x.kd) ∧ w'.cell? ⟨w.heap.size + 1, 1, none⟩ = some (.slice r1 i1 j1) ∧ w'.cell? ⟨w.heap.size + 1, 2, none⟩ = some (.slice r2 i2 j2) ∧ w'.cell? ⟨w.heap.size + 1, 3, none⟩ = some (.slice r3 i3 j3))
      (first
        | exact HSK.out w3.drew (fun _ _ _ => rfl)
        | exact HSK.out _ (fun q h _ => BB4.out.block q h)
        | exact HSK.out _ (fun q h hne => (putAt_other _ _ _ _ _ _ _ hne).trans (BB4.out.block q h)))
      (first
        | (go_simp; go_at_call 43; refine (IH.out su[n] x u d2 dx _ _ _ w3.drew HD2.out HDX.out HPU.out (IsSh.keep (Keeps.of_below B3.out.drew) _ _ HT.out.2.2.2.2) (HVS.out.keep (Keeps.of_below B3.out.drew)) (IsSh.keep (Keeps.of_below B3.out.drew) _ _ HX.out)).mono ?_; rintro e w4 ⟨d0, d1, d2', d3, F2, rfl, ho4, hn4, hb4⟩; obtain ⟨k4, l4, y4, k5, l5, y5, k6, y6, rfl, rfl, rfl, rfl⟩ := cells3 (OwnSh.is _ _ _ ho4); have BB4 : Hid (Below w3.heap.size w3 w4) := (Below.refl _ w3).drew.trans hb4; have hb24 := BB3.out.trans (BB4.out.mono BB3.out.size); obtain ⟨hfr, _, u0, u1, u2, u3, F', hv7, ho7, hn7, hf7⟩ := swap_at HO.out HN.out V2.out (fun hf => by have := HF.out _ hf; omega) HL.out hb24 ho4 hn4 BB3.out.size (by have := HG.out; have := BB3.out.size; show W.heap.size ≤ w3.heap.size; omega); have HV7 := Lib.hid hv7; have HO7 := Lib.hid ho7; have HN7 := Lib.hid hn7; have f0 := hfr (n * 4); have f1 := hfr (n * 4 + 1); have f2 := hfr (n * 4 + 2); have f3 := hfr (n * 4 + 3); have z0 := Keeps.of_below hb24 _ _ _ HR.out.1; have z1 := Keeps.of_below hb24 _ _ _ HR.out.2.1; have z2 := Keeps.of_below hb24 _ _ _ HR.out.2.2.1; have z3 := Keeps.of_below hb24 _ _ _ HR.out.2.2.2; clear ho4 hn4 hb4 hb24 hfr hv7 ho7 hn7 hf7)
        | fail)
    obtain ⟨w5, hw5⟩ : ∃ w', w' = putAt w4 g (n * 4) (.int .i64 (swapR p su[n] x).kd) (.slice k4 l4 y4) (.slice k5 l5 y5) (.slice k6 (swapR p su[n] x).su.length y6) := ⟨_, rfl⟩
    have HW5 := Lib.hid hw5
    rw [← hw5] at HV7 HO7
    have Y5 : Hid (w5.heap[w.heap.size + 1 + 1]? = some (.cells #[.int .i64 0, .slice none 0 0, .slice none 0 0, .slice none 0 0] 30 (0, 0))) := by
      show _ = _
      have := HG.out
      have := HZ.out
      rw [hw5, putAt_other _ _ _ _ _ _ _ (show w.heap.size + 1 + 1 ≠ g by omega)]
      exact blk_below Y3.out BB4.out (Array.getElem?_eq_some_iff.1 Y3.out).1
    have B5 : Hid (Below w.heap.size w w5) := by
      show Below _ _ _
      have := HG.out
      have := HZ.out
      rw [hw5]; exact putAt_below (B3.out.trans (BB4.out.mono B3.out.size)) (by omega) _ _ _ _ _
    obtain ⟨y, hy⟩ : ∃ y, swapR [s] (.mk k sy na su) (swapR p su[n] x) = y := ⟨_, rfl⟩
    have HY : Hid (swapR (s :: p) (.mk k sy na su) x = y) := by
      show _ = _
      rw [← hy]
      simp only [swapR]
      rw [show (stepR (.mk k sy na su) s).toNat = n by rw [HQ.out]; rfl, List.getElem?_eq_getElem hlt, Option.getD_some]
    rw [hy] at HO7
    obtain ⟨k7, l7, o7, k8, l8, o8, k9, o9, rfl, rfl, rfl, rfl⟩ := cells3 (OwnSh.is _ _ _ HO7.out)
    clear hw5 hy
    go_upto_region 6 with fail
    rw [show ((((w4.setCell ⟨g, n * 4, none⟩ (.int .i64 (swapR p su[n] x).kd)).setCell ⟨g, n * 4 + 1, none⟩ (.slice k4 l4 y4)).setCell ⟨g, n * 4 + 2, none⟩ (.slice k5 l5 y5)).setCell ⟨g, n * 4 + 3, none⟩ (.slice k6 (swapR p su[n] x).su.length y6)) = w5 from HW5.out.symm]
    clear f0 f1 f2 f3 z0 z1 z2 z3
    obtain ⟨v0, v1, v2, v3, _, _, _, _, vz⟩ := blk4 HV7.out
    obtain ⟨t0, t1, t2, t3, f0, f1, f2, f3, tz⟩ := blk4 Y5.out
    go_wp2_with fail
    refine bodyPost_ret (v := .agg #[.int .i64 y.kd, .slice k7 l7 o7, .slice k8 l8 o8, .slice k9 y.su.length o9]) (by simp [results, Try.results43, go_sem, *]) rfl ?_
    refine ⟨_, _, _, _, F', rfl, ?_, HN7.out, putS_below B5.out (by omega) _ _ _ _⟩
    rw [HY.out]
    exact OwnSh.move HB.out.size _ _ _ (fun q hq => putS_other _ _ _ _ _ _ (by have := OwnSh.blocks _ _ _ HO7.out q hq; have := HZ.out; omega)) HO7.out

/-- spec.l06Swap. -/
theorem ss_any : ∀ p : List ByteArray, SsAt p
  | [] => ss_nil
  | s :: p => ss_cons s p (ss_any p)
end Go.Proofs.Ythllilkokkijaaa
