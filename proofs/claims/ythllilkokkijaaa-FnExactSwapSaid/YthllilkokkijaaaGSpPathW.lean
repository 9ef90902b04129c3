/- Walks: spec.l06Step, spec.l06Part. -/
import Derived.Test.YthllilkokkijaaaGPartP
import Derived.Test.YthllilkokkijaaaGPutSP
import Derived.RegionTactic
import Derived.BigQuiet
import Derived.Deep.QuietTactic
import Derived.Deep.DeepCutAuto
import Derived.StillTailTactics
import Derived.Deep.RegionWith
namespace Go.Proofs.Ythllilkokkijaaa
open Go.RowKit

set_option maxRecDepth 100000 in
set_option maxHeartbeats 1000000 in
theorem step_any (t : Sh) (s : ByteArray) (v : Value) (w : World) (h : IsSh w t v) :
    Calls Try.prog 49 #[v, .string s] w fun e w' => e = .returned (.int .i64 (stepR t s)) ∧ Below w.heap.size w w' := by
  cases t with | mk k sy na su =>
  obtain ⟨p1, m1, p2, m2, p3, m3, rfl, hk, h1, h2, h3⟩ := h.open
  have H2 := Lib.hid (h2.keep (Keeps.of_below (below_alloc w (.cells #[.int .i64 k, .slice p1 sy.length m1, .slice p2 na.length m2, .slice p3 su.length m3] 30))))
  clear h h1 h2 h3 hk
  by_cases hs : s = starS
  · subst hs
    by_cases hk : k = 5 ∨ k = 6
    · have HR : Hid (stepR (.mk k sy na su) starS = 0) := by show _ = _; exact (if_pos rfl).trans (if_pos hk)
      unfold starS at HR ⊢
      rcases hk with rfl | rfl
      all_goals
        go_enter Try.func49, Try.ntmps49
        go_wp2_with fail
        go_ret
        exact ⟨ret_int HR.out.symm, below_alloc _ _⟩
    · have HR : Hid (stepR (.mk k sy na su) starS = -1) := by show _ = _; exact (if_pos rfl).trans (if_neg hk)
      unfold starS at HR ⊢
      have k5 : (k == 5) = false := by simpa using fun e => hk (.inl e)
      have k6 : (k == 6) = false := by simpa using fun e => hk (.inr e)
      clear hk
      go_enter Try.func49, Try.ntmps49
      go_wp2_with fail
      go_ret
      exact ⟨ret_int HR.out.symm, below_alloc _ _⟩
  · obtain ⟨q, hq⟩ : ∃ q, posOf na s = q := ⟨_, rfl⟩
    have HQ := Lib.hid hq
    have HR : Hid (stepR (.mk k sy na su) s = q) := by show _ = _; exact (if_neg hs).trans hq
    have hn := star_ne hs
    clear hs hq
    go_enter Try.func49, Try.ntmps49
    go_wp2_with fail
    refine (at_is _ na s q HQ.out _ H2.out).mono ?_
    rintro e w1 ⟨rfl, rfl⟩
    go_wp2_with fail
    go_ret
    exact ⟨ret_int HR.out.symm, below_alloc _ _⟩
theorem step_is (t : Sh) (s : ByteArray) (q : Int) (hq : stepR t s = q) (v : Value) (w : World) (h : IsSh w t v) :
    Calls Try.prog 49 #[v, .string s] w fun e w' => e = .returned (.int .i64 q) ∧ Below w.heap.size w w' := by
  subst hq; exact step_any t s v w h

/-- What l06Part leaves. -/
def PartPost (r : Option Sh) (w : World) (e : Ending) (w' : World) : Prop :=
  ∃ k p1 n1 m1 p2 n2 m2 p3 n3 m3, e = .returned (.tuple #[.agg #[.int .i64 k, .slice p1 n1 m1, .slice p2 n2 m2, .slice p3 n3 m3], .bool r.isSome]) ∧ (∀ u, r = some u → IsSh w' u (.agg #[.int .i64 k, .slice p1 n1 m1, .slice p2 n2 m2, .slice p3 n3 m3])) ∧ Below w.heap.size w w'

set_option maxRecDepth 100000 in
set_option maxHeartbeats 2000000 in
theorem specPart_any (t : Sh) (p : List ByteArray) (d : Nat) (v vp : Value) (w : World) (hd : partOk d t = true) (h : IsSh w t v) (hp : IsStrs w vp p) :
    Calls Try.prog 32 #[v, vp] w (PartPost (partP p t) w) := by
  have HH := Lib.hid h
  obtain ⟨p1, n1, m1, p2, n2, m2, p3, n3, m3, rfl⟩ := h.agg
  obtain ⟨h1, h2, a, cap, rfl, h3, h4, h6⟩ := hp
  have H6 := Lib.hid h6
  obtain ⟨W, hW⟩ : ∃ W, W = (w.alloc (.cells #[.int .i64 t.kd, .slice p1 n1 m1, .slice p2 n2 m2, .slice p3 n3 m3] 30)).alloc (.cells #[.int .i64 0, .slice none 0 0, .slice none 0 0, .slice none 0 0] 30) := ⟨_, rfl⟩
  obtain ⟨x0, x1⟩ := two_new w (.cells #[.int .i64 t.kd, .slice p1 n1 m1, .slice p2 n2 m2, .slice p3 n3 m3] 30) (.cells #[.int .i64 0, .slice none 0 0, .slice none 0 0, .slice none 0 0] 30)
  have hb : Below w.heap.size w W := by rw [hW]; exact (below_alloc w _).alloc (by simp) _
  have hz : W.heap.size = w.heap.size + 1 + 1 := by rw [hW]; simp
  rw [← hW] at x0 x1
  obtain ⟨r, hr⟩ : ∃ r, partP p t = r := ⟨_, rfl⟩
  rw [hr]
  have HR := Lib.hid hr
  have X0 := Lib.hid x0
  have X1 := Lib.hid x1
  have HB := Lib.hid hb
  have HZ := Lib.hid hz
  have HW := Lib.hid hW
  have HD := Lib.hid hd
  clear h h6 h2 x0 x1 hb hz hW hd hr
  go_enter Try.func32, Try.ntmps32
  go_wp2_with fail
  rw [← HW.out]
  go_loopw [6] (fun i wr => ∃ (k : Nat) (u : Sh) (d' : Nat) (q1 : Option Addr) (i1 j1 : Nat) (q2 : Option Addr) (i2 j2 : Nat) (q3 : Option Addr) (i3 j3 : Nat), k ≤ p.length ∧ i = .int .i64 k ∧ Hid (partP (p.take k) t = some u) ∧ Hid (partOk d' u = true) ∧
      Hid (IsSh w u (.agg #[.int .i64 u.kd, .slice q1 i1 j1, .slice q2 i2 j2, .slice q3 i3 j3])) ∧ Hid (wr.heap[w.heap.size]? = some (.cells #[.int .i64 u.kd, .slice q1 i1 j1, .slice q2 i2 j2, .slice q3 i3 j3] 30 (0, 0))) ∧ Hid (wr.heap[w.heap.size + 1]? = some (.cells #[.int .i64 0, .slice none 0 0, .slice none 0 0, .slice none 0 0] 30 (0, 0))) ∧ Hid (Below w.heap.size w wr)) (fun i _ => p.length - (intOf i).toNat)
  case atStart => exact ⟨0, t, d, _, _, _, _, _, _, _, _, _, Nat.zero_le _, rfl, rfl, HD.out, HH.out, X0.out, X1.out, HB.out⟩
  case round =>
    obtain ⟨k, u, d', q1, i1, j1, q2, i2, j2, q3, i3, j3, hk, rfl, HPk, HDk, HI, HXk, HYk, HBk⟩ := hrel
    by_cases hlt : k < p.length
    · obtain ⟨b, off, rfl, hc⟩ := IsStrs.at H6.out hlt
      have g0 := Keeps.of_below HBk.out _ _ _ hc
      obtain ⟨a0, a1, a2, a3, _, _, _, _, az⟩ := blk4 HXk.out
      have HTk : Hid (partP (p.take (k + 1)) t = childR u p[k]) := by
        show _ = _
        rw [List.take_succ_eq_append_getElem hlt, partP_snoc, HPk.out]; rfl
      obtain ⟨s, hs⟩ : ∃ s, s = p[k] := ⟨_, rfl⟩
      rw [← hs] at HTk g0
      obtain ⟨q, hq⟩ : ∃ q, stepR u s = q := ⟨_, rfl⟩
      have HQ := Lib.hid hq
      have HCA := Lib.hid (fun h0 => child_at (s := s) HDk.out h0)
      rw [hq] at HCA
      clear hc hs
      by_cases hq0 : q < 0
      · have HN : Hid (r = none) := by show _ = _; rw [← HR.out]; exact partP_none (k := k + 1) (HTk.out.trans (child_no (by rw [hq]; exact hq0)))
        clear hq
        go_upto_region 4 with fail
        go_still_tail 5, (by kernel_rfl)
        change wpList _ _ _ _ _ wr.drew
        go_wp2_with fail
        refine (step_is u s q HQ.out _ wr.drew (IsSh.keep (Keeps.of_below HBk.out.drew) _ _ HI.out)).mono ?_
        rintro e w1 ⟨rfl, hb1⟩
        have B1 := Lib.hid (HBk.out.trans ((Below.refl _ wr).drew.trans hb1 |>.mono HBk.out.size))
        have X1' := Lib.hid (blk_below (w := wr.drew) HXk.out hb1 az)
        have Y1' := Lib.hid (blk_below (w := wr.drew) HYk.out hb1 (Array.getElem?_eq_some_iff.1 HYk.out).1)
        clear hb1 a0 a1 a2 a3 az g0
        obtain ⟨a0, a1, a2, a3, _, _, _, _, az⟩ := blk4 X1'.out
        obtain ⟨y0, y1, y2, y3, f0, f1, f2, f3, yz⟩ := blk4 Y1'.out
        go_wp2_with fail
        rw [HN.out]
        refine bodyPost_ret (v := .tuple #[.agg #[.int .i64 u.kd, .slice q1 i1 j1, .slice q2 i2 j2, .slice q3 i3 j3], .bool false]) (by simp [results, Try.results32, go_sem, *]) rfl ?_
        exact ⟨_, _, _, _, _, _, _, _, _, _, rfl, fun u hu => (by cases hu), putS_below B1.out (by omega) _ _ _ _⟩
      · obtain ⟨hlt2, hch, d2, _, hd2⟩ := HCA.out (by omega)
        have hq1 : 0 ≤ q := by omega
        obtain ⟨n, rfl⟩ : ∃ n : Nat, q = n := ⟨q.toNat, by omega⟩
        rw [Int.toNat_natCast] at hlt2
        simp only [Int.toNat_natCast] at hch hd2
        have HCH := Lib.hid (HTk.out.trans hch)
        have HD2 := Lib.hid hd2
        have hIs := HI.out
        obtain ⟨su, hsu⟩ : ∃ su, su = u.su := ⟨_, rfl⟩
        have hpar : IsShs w (.slice q3 i3 j3) su := by
          cases u with | mk kk ss nn uu =>
          obtain ⟨_, _, _, he, _, _, _, hx⟩ := hIs.parts
          simp only [Value.agg.injEq, Array.mk.injEq, List.cons.injEq, and_true] at he
          rw [hsu, he.2.2.2]; exact hx
        obtain ⟨ax, cx, ex, lx, cx2, hx⟩ := hpar
        simp only [Value.slice.injEq] at ex
        obtain ⟨rfl, rfl, rfl⟩ := ex
        have hlt3 : n < su.length := by rw [hsu]; exact hlt2
        obtain ⟨bb, oo, rfl, c0, c1, c2, c3, s0, s1, s2, s3, s4⟩ := IsShs.at hx hlt3
        have HE : Hid (u.su[n] = su[n]) := by show _ = _; subst hsu; rfl
        rw [HE.out] at HCH HD2
        clear HE hq hch hd2 hIs hx hq0 HCA hsu hlt2
        go_upto_region 4 with fail
        go_still_tail 5, (by kernel_rfl)
        change wpList _ _ _ _ _ wr.drew
        go_wp2_with fail
        refine (step_is u s n HQ.out _ wr.drew (IsSh.keep (Keeps.of_below HBk.out.drew) _ _ HI.out)).mono ?_
        rintro e w1 ⟨rfl, hb1⟩
        have hbb : Below wr.heap.size wr w1 := (Below.refl _ wr).drew.trans hb1
        have B1 := Lib.hid (HBk.out.trans (hbb.mono HBk.out.size))
        have X1' := Lib.hid (blk_below (w := wr.drew) HXk.out hb1 az)
        have Y1' := Lib.hid (blk_below (w := wr.drew) HYk.out hb1 (Array.getElem?_eq_some_iff.1 HYk.out).1)
        have kk := Keeps.of_below B1.out
        have t0 := kk _ _ _ s0
        have t1 := kk _ _ _ s1
        have t2 := kk _ _ _ s2
        have t3 := kk _ _ _ s3
        have J1 := Lib.hid s4
        obtain ⟨x1, y1', z1, x2, y2', z2, x3, y3', z3, rfl, rfl, rfl, rfl⟩ := s4.cells
        have HBB := Lib.hid (World.block_lt_of_cell? w ⟨bb, oo + n * 4, none⟩ s0)
        clear hb1 hbb a0 a1 a2 a3 az g0 kk s0 s1 s2 s3 s4
        obtain ⟨a0, a1, a2, a3, f0, f1, f2, f3, az⟩ := blk4 X1'.out
        have hlt4 : (n : Int) < su.length := by omega
        go_wp2_with fail
        go_roundw
        case rel =>
          refine ⟨k + 1, su[n], d2, _, _, _, _, _, _, _, _, _, hlt, by go_num, HCH.out, HD2.out, J1.out, putS_blk X1'.out _ _ _ _, ?_, putS_below B1.out (Nat.le_refl _) _ _ _ _⟩
          exact (putS_other _ _ _ _ _ _ (by omega)).trans Y1'.out
        case measure => simp [intOf]; omega
    · obtain rfl : k = p.length := by omega
      have HN : Hid (r = some u) := by
        show _ = _
        have := HPk.out
        rw [List.take_length] at this
        rw [← HR.out]; exact this
      obtain ⟨a0, a1, a2, a3, _, _, _, _, az⟩ := blk4 HXk.out
      obtain ⟨y0, y1, y2, y3, f0, f1, f2, f3, yz⟩ := blk4 HYk.out
      go_wp2_with fail
      rw [HN.out]
      refine bodyPost_ret (v := .tuple #[.agg #[.int .i64 u.kd, .slice q1 i1 j1, .slice q2 i2 j2, .slice q3 i3 j3], .bool true]) (by simp [results, Try.results32, go_sem, *]) rfl ?_
      refine ⟨_, _, _, _, _, _, _, _, _, _, rfl, fun u' hu => ?_, putS_below HBk.out (by omega) _ _ _ _⟩
      cases hu
      exact IsSh.keep (Keeps.of_below (putS_below HBk.out (by omega) _ _ _ _)) _ _ HI.out
end Go.Proofs.Ythllilkokkijaaa
