/- Walks: impl.appendMaybe, impl.appendVal. -/
import Derived.Test.YtflpfphfoibggaaDoorAvR
namespace Go.Proofs.YtflpfphfoibggaaDoor
open Go.RowKit

theorem joinC_one {it : List Va} (h : it.length = 1) (h0 : 0 < it.length) : joinC (Va.txts it) = it[0].txt := by
  match it, h with
  | [x], _ => simp [Va.txts, joinC]

set_option maxRecDepth 100000 in
set_option maxHeartbeats 2000000 in
theorem am_none (w0 w : World) (v : Value) (l : List UInt8) (p1 p2 p3 p4 : Option Addr) (n1 n2 n3 m1 m2 m3 m4 : Nat)
    (hb : Below w0.heap.size w0 w) (ho : OwnB w w0.heap.size v l) (hl : l.length + 100 ≤ 1099511627776) :
    Calls Tryd.prog 101 #[v, .agg #[.int .i64 5, .slice p1 n1 m1, .slice p2 n2 m2, .slice p3 n3 m3], .slice p4 0 m4] w (AvPost w0 w (l ++ [110, 111, 110, 101])) := by
  obtain ⟨p, n, m, rfl⟩ := ho.slice
  obtain ⟨W, hW⟩ : ∃ W, W = w.alloc (.cells #[.int .i64 5, .slice p1 n1 m1, .slice p2 n2 m2, .slice p3 n3 m3] 102) := ⟨_, rfl⟩
  have hbW : Below w.heap.size w W := by rw [hW]; exact below_alloc w _
  have HO := Lib.hid (own_block (w' := W) ho fun g hg => hbW.block g (blkOf_own ho g hg).2)
  have HB := Lib.hid (hb.trans (hbW.mono hb.size))
  have HS := Lib.hid hbW.size
  have HK := Lib.hid (KeptO.below hbW)
  have HW := Lib.hid hW
  clear ho hb hbW hW
  go_enter Tryd.func101, Tryd.ntmps101
  go_wp2_with (at_builtin; go_must (rw [← HW.out]; refine wpList_strK W rfl (.tmp 10) (.const (.string ⟨#[110, 111, 110, 101]⟩)) rfl w0.heap.size (.slice p n m) l ⟨#[110, 111, 110, 101]⟩ rfl HO.out rfl (by show _ + 4 < _; omega) HB.out.size ?_))
  intro v' w9 hv' hb9 hk9
  obtain ⟨p9, n9, m9, rfl⟩ := hv'.slice
  have HP9 := Lib.hid hv'
  have HB9 := Lib.hid (hb9 _ _ HB.out (Nat.le_refl _))
  have HZ9 : Hid (w.heap.size ≤ w9.heap.size) := Nat.le_trans HS.out (hb9 0 W (Below.refl _ _) (Nat.zero_le _)).size
  have HK9 : Hid (KeptO w w9) := HK.out.trans hk9.o
  clear hv' hb9 hk9
  go_wp2_with fail
  go_ret
  exact ⟨p9, n9, m9, rfl, HP9.out, HB9.out, HZ9.out, HK9.out⟩

set_option maxRecDepth 100000 in
set_option maxHeartbeats 2000000 in
theorem am_some (d : Nat) (ih : AvAt d) (w0 w : World) (v : Value) (l : List UInt8) (p1 p2 p3 p4 : Option Addr) (n1 n2 m1 m2 m3 m4 : Nat) (su : List Sh) (it : List Va)
    (hsu : IsShs w0 (.slice p3 su.length m3) su) (hit : IsVas w0 (.slice p4 it.length m4) it) (h1 : it.length = 1) (hp : su.all (partOk d) = true) (hf : it.all (fitOne su) = true) (htx : ∀ x ∈ it, x.txt.length ≤ capT d)
    (hb : Below w0.heap.size w0 w) (ho : OwnB w w0.heap.size v l) (hl : l.length + capT (d + 1) ≤ 1099511627776) (htab : TabAt w0.heap.size w0) :
    Calls Tryd.prog 101 #[v, .agg #[.int .i64 5, .slice p1 n1 m1, .slice p2 n2 m2, .slice p3 su.length m3], .slice p4 it.length m4] w (AvPost w0 w (l ++ ([115, 111, 109, 101, 40] ++ (joinC (Va.txts it) ++ [41])))) := by
  obtain ⟨a3, cap3, e3, _, hc3, g3⟩ := hsu
  simp only [Value.slice.injEq] at e3
  obtain ⟨rfl, _, rfl⟩ := e3
  obtain ⟨a4, cap4, e4, _, hc4, g4⟩ := hit
  simp only [Value.slice.injEq] at e4
  obtain ⟨rfl, _, rfl⟩ := e4
  simp only [capT] at hl
  have h0 : 0 < it.length := by omega
  rw [joinC_one h1 h0]
  have hlu : 0 < su.length := fitOne_pos (List.all_eq_true.1 hf it[0] (List.getElem_mem h0))
  have HFk : Hid (fitB su[0] it[0] = true) := by have := List.all_eq_true.1 hf it[0] (List.getElem_mem h0); rwa [fitOne_at hlu] at this
  have HPk := Lib.hid (List.all_eq_true.1 hp su[0] (List.getElem_mem hlu))
  have HTX := Lib.hid (htx it[0] (List.getElem_mem h0))
  obtain ⟨b, off, rfl, c0, c1, c2, c3, s0, s1, s2, s3, s4⟩ := IsShs.at g3 hlu
  obtain ⟨q1, i1, j1, q2, i2, j2, q3, i3, j3, rfl, rfl, rfl, rfl⟩ := s4.cells
  obtain ⟨b', off', rfl, d0, d1, d2, d3, e0, e1, e2, e3, e4⟩ := IsVas.at g4 h0
  obtain ⟨q4, j4, rfl, rfl, rfl, rfl⟩ := e4.cells
  simp only [Nat.zero_mul, Nat.add_zero] at s0 s1 s2 s3 e0 e1 e2 e3
  have hb0 : ((it.length : Int) == 0) = false := by rw [beq_eq_false_iff_ne]; omega
  have hi0 : (0 : Int) < (it.length : Int) := by omega
  have hi1 : (0 : Int) < (su.length : Int) := by omega
  have HS0 := Lib.hid (And.intro s0 (And.intro s1 (And.intro s2 s3)))
  have HE0 := Lib.hid (And.intro e0 (And.intro e1 (And.intro e2 e3)))
  have HS4 := Lib.hid s4
  have HG4 := Lib.hid e4
  have HTAB := Lib.hid htab
  have IH := Lib.hid ih
  obtain ⟨p, n, m, rfl⟩ := ho.slice
  obtain ⟨W, hW⟩ : ∃ W, W = w.alloc (.cells #[.int .i64 5, .slice p1 n1 m1, .slice p2 n2 m2, .slice (some ⟨b, off, none⟩) su.length m3] 102) := ⟨_, rfl⟩
  have hbW : Below w.heap.size w W := by rw [hW]; exact below_alloc w _
  have HXO := Lib.hid (show W.heap[w.heap.size]? = some (.cells #[.int .i64 5, .slice p1 n1 m1, .slice p2 n2 m2, .slice (some ⟨b, off, none⟩) su.length m3] 102) by rw [hW]; exact Go.Deep.blk_alloc_new _ _)
  have HO := Lib.hid (own_block (w' := W) ho fun g hg => hbW.block g (blkOf_own ho g hg).2)
  have HB := Lib.hid (hb.trans (hbW.mono hb.size))
  have HS := Lib.hid hbW.size
  have HK := Lib.hid (KeptO.below hbW)
  have HW := Lib.hid hW
  clear g3 g4 hp hf htx htab ih ho hb hbW hW s0 s1 s2 s3 s4 e0 e1 e2 e3 e4 h1
  go_enter Tryd.func101, Tryd.ntmps101
  go_wp2_with fail
  rw [← HW.out]
  obtain ⟨x0, x1, x2, x3, _, _, _, _, xz⟩ := blk4 HXO.out
  have z0 := Keeps.of_below HB.out _ _ _ HS0.out.1
  have z1 := Keeps.of_below HB.out _ _ _ HS0.out.2.1
  have z2 := Keeps.of_below HB.out _ _ _ HS0.out.2.2.1
  have z3 := Keeps.of_below HB.out _ _ _ HS0.out.2.2.2
  have y0 := Keeps.of_below HB.out _ _ _ HE0.out.1
  have y1 := Keeps.of_below HB.out _ _ _ HE0.out.2.1
  have y2 := Keeps.of_below HB.out _ _ _ HE0.out.2.2.1
  have y3 := Keeps.of_below HB.out _ _ _ HE0.out.2.2.2
  go_region_law (first
    | (go_simp; go_at_call 74; refine (IH.out su[0] it[0] w0 _ _ _ _ _ HPk.out HFk.out HS4.out HG4.out HB5.out HP5.out (by rw [List.length_append]; simp; omega) HTAB.out).mono ?_; rintro e w6 ⟨p6, n6, m6, rfl, hp6, hb6, hz6, hk6⟩; have HK6 := Lib.hid (HK5.out.trans hk6); have HP6 := Lib.hid hp6; have HB6 := Lib.hid hb6; have HZ6 := Lib.hid (Nat.le_trans HZ5.out hz6); clear hp6 hb6 hz6 hk6)
    | (refine step_s W (by with_reducible first | exact Below.refl _ W | exact (Below.refl _ W).drew) rfl (.tmp 12) (.const (.string ⟨#[115, 111, 109, 101, 40]⟩)) rfl w0.heap.size (.slice p n m) l ⟨#[115, 111, 109, 101, 40]⟩ rfl HO.out rfl (by show _ + 5 < _; omega) HB.out.size ?_; intro p5 n5 m5 w5 hv5 hb5 hk5 hz5 hc5; have HP5 : Hid (OwnB w5 w0.heap.size (.slice p5 n5 m5) (l ++ [115, 111, 109, 101, 40])) := hv5; have HB5 := Lib.hid (hb5 _ HB.out); have HZ5 := Lib.hid (Nat.le_trans HS.out hz5); have HK5 := Lib.hid (HK.out.trans hk5); obtain ⟨_, _, _, _, _, _, _, _, _⟩ := blk4 (KeptO.blk hk5 (by decide) HXO.out); have u0 := Keeps.of_below HB5.out _ _ _ HS0.out.1; have u1 := Keeps.of_below HB5.out _ _ _ HS0.out.2.1; have u2 := Keeps.of_below HB5.out _ _ _ HS0.out.2.2.1; have u3 := Keeps.of_below HB5.out _ _ _ HS0.out.2.2.2; have r0 := Keeps.of_below HB5.out _ _ _ HE0.out.1; have r1 := Keeps.of_below HB5.out _ _ _ HE0.out.2.1; have r2 := Keeps.of_below HB5.out _ _ _ HE0.out.2.2.1; have r3 := Keeps.of_below HB5.out _ _ _ HE0.out.2.2.2; clear hv5 hb5 hk5 hz5 hc5))
  all_goals
    obtain ⟨L6, hL6⟩ : ∃ L6, L6 = (l ++ ([115, 111, 109, 101, 40] : List UInt8)) ++ it[0].txt := ⟨_, rfl⟩
    have HP6' := HP6.out
    rw [← hL6] at HP6'
    have HP7 := Lib.hid HP6'
    have HL6 := Lib.hid hL6
    have HM6 : Hid (L6.length < 70368744177664) := by
      show _ < _
      have h2 := HTX.out
      rw [hL6, List.length_append, List.length_append]
      simp only [List.length_cons, List.length_nil]
      omega
    clear hL6 HP6'
    go_wp2_with (at_builtin; go_must (refine wpList_byteK w6 rfl (.tmp 22) (.tmp 23) rfl w0.heap.size (.slice p6 n6 m6) L6 41 41 rfl HP7.out rfl rfl HM6.out HB6.out.size ?_))
    intro v7 w7 hv7 hb7 hk7
    obtain ⟨p7, n7, m7, rfl⟩ := hv7.slice
    have HP8 := Lib.hid hv7
    have HB7 := Lib.hid (hb7 _ _ HB6.out (Nat.le_refl _))
    have HZ7 := Lib.hid (Nat.le_trans HZ6.out (hb7 0 w6 (Below.refl _ _) (Nat.zero_le _)).size)
    have HK7 := Lib.hid (HK6.out.trans hk7.o)
    clear hv7 hb7 hk7
    go_wp2_with fail
    go_ret
    have h8 := HP8.out
    rw [HL6.out] at h8
    exact ⟨p7, n7, m7, rfl, by simpa using h8, HB7.out, HZ7.out, HK7.out⟩

set_option maxRecDepth 100000 in
set_option maxHeartbeats 2000000 in
theorem av_maybe (w0 w : World) (v : Value) (l : List UInt8) (p1 p2 p3 p4 : Option Addr) (n1 n2 n3 n4 m1 m2 m3 m4 : Nat) (n : Int) (t : ByteArray)
    (hb : Below w0.heap.size w0 w) (ho : OwnB w w0.heap.size v l) (_ : l.length + 100 ≤ 1099511627776) (r : List UInt8) (hcall : ∀ (W1 : World) (v1 : Value), Below w0.heap.size w0 W1 → OwnB W1 w0.heap.size v1 l → Calls Tryd.prog 101 #[v1, .agg #[.int .i64 5, .slice p1 n1 m1, .slice p2 n2 m2, .slice p3 n3 m3], .slice p4 n4 m4] W1 (AvPost w0 W1 (l ++ r))) :
    Calls Tryd.prog 74 #[v, .agg #[.int .i64 5, .slice p1 n1 m1, .slice p2 n2 m2, .slice p3 n3 m3], .agg #[.int .i64 5, .int .i64 n, .string t, .slice p4 n4 m4]] w (AvPost w0 w (l ++ r)) := by
  obtain ⟨p, nn, m, rfl⟩ := ho.slice
  obtain ⟨x0, x1⟩ := two_new w (.cells #[.int .i64 5, .slice p1 n1 m1, .slice p2 n2 m2, .slice p3 n3 m3] 26) (.cells #[.int .i64 5, .int .i64 n, .string t, .slice p4 n4 m4] 55)
  obtain ⟨W, hW⟩ : ∃ W, W = (w.alloc (.cells #[.int .i64 5, .slice p1 n1 m1, .slice p2 n2 m2, .slice p3 n3 m3] 26)).alloc (.cells #[.int .i64 5, .int .i64 n, .string t, .slice p4 n4 m4] 55) := ⟨_, rfl⟩
  have hbW : Below w.heap.size w W := by rw [hW]; exact (below_alloc w _).alloc (by simp) _
  rw [← hW] at x1
  have HW := Lib.hid hW
  have HO := Lib.hid (own_block (w' := W) ho fun g hg => hbW.block g (blkOf_own ho g hg).2)
  have HB := Lib.hid (hb.trans (hbW.mono hb.size))
  have HS := Lib.hid hbW.size
  have HK := Lib.hid (KeptO.below hbW)
  have X1 := Lib.hid x1
  have u0 := ta_no_flag 102 (by decide)
  have u1 := ta_no_num 102 (by decide)
  have u2 := ta_no_text 102 (by decide)
  have u3 := ta_no_pick 102 (by decide)
  have u4 := ta_maybe
  clear x0 x1 hbW hW hb ho
  go_enter Tryd.func74, Tryd.ntmps74
  go_wp2_with fail
  rw [← HW.out]
  refine (kindOf_maybe _ _ _ _ _ _ _ _ _ _).mono ?_
  rintro e w0' ⟨rfl, hb1⟩
  obtain ⟨w1, hw1⟩ : ∃ w1, w1 = w0'.alloc (.cells #[.int .i64 5, .slice p1 n1 m1, .slice p2 n2 m2, .slice p3 n3 m3] 102) := ⟨_, rfl⟩
  have hba : Below W.heap.size W w1 := by rw [hw1]; exact hb1.alloc hb1.size _
  have K1 := Lib.hid (show w1.heap[w0'.heap.size]? = some (.cells #[.int .i64 5, .slice p1 n1 m1, .slice p2 n2 m2, .slice p3 n3 m3] 102 (0, 0)) by rw [hw1]; exact Go.Deep.blk_alloc_new _ _)
  have HO1 := Lib.hid (own_block (w' := w1) HO.out fun g hg => hba.block g (blkOf_own HO.out g hg).2)
  have HB1 := Lib.hid (HB.out.trans (hba.mono HB.out.size))
  have HS1 := Lib.hid (Nat.le_trans HS.out hba.size)
  have HK1 := Lib.hid (HK.out.trans (KeptO.below hba))
  have V1 := Lib.hid (blk_below X1.out hba (blk4 X1.out).2.2.2.2.2.2.2.2)
  have HW1 := Lib.hid hw1
  clear hba hb1 hw1
  obtain ⟨v0, v1, v2, v3, _, _, _, _, vz⟩ := blk4 V1.out
  rw [HW1.out] at v0 v1 v2 v3
  obtain ⟨k0, k1, k2, k3, _, _, _, _, kz⟩ := blk4 K1.out
  rw [HW1.out] at k0 k1 k2 k3
  have HR := Lib.hid (hcall w1 (.slice p nn m) HB1.out HO1.out)
  clear hcall
  go_wp2_with fail
  rw [← HW1.out]
  refine HR.out.mono ?_
  rintro e w2 ⟨q2, k2, m2', rfl, hp2, hb2, hz2, hk2⟩
  have HP2 := Lib.hid hp2
  have HB2 := Lib.hid hb2
  have HZ2 := Lib.hid (Nat.le_trans HS1.out hz2)
  have HK2 := Lib.hid (HK1.out.trans hk2)
  clear hp2 hb2 hz2 hk2
  go_wp2_with fail
  go_ret
  exact ⟨q2, k2, m2', rfl, HP2.out, HB2.out, HZ2.out, HK2.out⟩

set_option maxRecDepth 100000 in
set_option maxHeartbeats 2000000 in
theorem av_list (w0 w : World) (v : Value) (l : List UInt8) (p1 p2 p3 p4 : Option Addr) (n1 n2 n3 n4 m1 m2 m3 m4 : Nat) (n : Int) (t : ByteArray)
    (hb : Below w0.heap.size w0 w) (ho : OwnB w w0.heap.size v l) (_ : l.length + 100 ≤ 1099511627776) (r : List UInt8) (hcall : ∀ (W1 : World) (v1 : Value), Below w0.heap.size w0 W1 → OwnB W1 w0.heap.size v1 l → Calls Tryd.prog 102 #[v1, .agg #[.int .i64 6, .slice p1 n1 m1, .slice p2 n2 m2, .slice p3 n3 m3], .slice p4 n4 m4] W1 (AvPost w0 W1 (l ++ r))) :
    Calls Tryd.prog 74 #[v, .agg #[.int .i64 6, .slice p1 n1 m1, .slice p2 n2 m2, .slice p3 n3 m3], .agg #[.int .i64 6, .int .i64 n, .string t, .slice p4 n4 m4]] w (AvPost w0 w (l ++ r)) := by
  obtain ⟨p, nn, m, rfl⟩ := ho.slice
  obtain ⟨x0, x1⟩ := two_new w (.cells #[.int .i64 6, .slice p1 n1 m1, .slice p2 n2 m2, .slice p3 n3 m3] 26) (.cells #[.int .i64 6, .int .i64 n, .string t, .slice p4 n4 m4] 55)
  obtain ⟨W, hW⟩ : ∃ W, W = (w.alloc (.cells #[.int .i64 6, .slice p1 n1 m1, .slice p2 n2 m2, .slice p3 n3 m3] 26)).alloc (.cells #[.int .i64 6, .int .i64 n, .string t, .slice p4 n4 m4] 55) := ⟨_, rfl⟩
  have hbW : Below w.heap.size w W := by rw [hW]; exact (below_alloc w _).alloc (by simp) _
  rw [← hW] at x1
  have HW := Lib.hid hW
  have HO := Lib.hid (own_block (w' := W) ho fun g hg => hbW.block g (blkOf_own ho g hg).2)
  have HB := Lib.hid (hb.trans (hbW.mono hb.size))
  have HS := Lib.hid hbW.size
  have HK := Lib.hid (KeptO.below hbW)
  have X1 := Lib.hid x1
  have u0 := ta_no_flag 103 (by decide)
  have u1 := ta_no_num 103 (by decide)
  have u2 := ta_no_text 103 (by decide)
  have u3 := ta_no_pick 103 (by decide)
  have u4 := ta_no_maybe 103 (by decide)
  have u5 := ta_list
  clear x0 x1 hbW hW hb ho
  go_enter Tryd.func74, Tryd.ntmps74
  go_wp2_with fail
  rw [← HW.out]
  refine (kindOf_list _ _ _ _ _ _ _ _ _ _).mono ?_
  rintro e w0' ⟨rfl, hb1⟩
  obtain ⟨w1, hw1⟩ : ∃ w1, w1 = w0'.alloc (.cells #[.int .i64 6, .slice p1 n1 m1, .slice p2 n2 m2, .slice p3 n3 m3] 103) := ⟨_, rfl⟩
  have hba : Below W.heap.size W w1 := by rw [hw1]; exact hb1.alloc hb1.size _
  have K1 := Lib.hid (show w1.heap[w0'.heap.size]? = some (.cells #[.int .i64 6, .slice p1 n1 m1, .slice p2 n2 m2, .slice p3 n3 m3] 103 (0, 0)) by rw [hw1]; exact Go.Deep.blk_alloc_new _ _)
  have HO1 := Lib.hid (own_block (w' := w1) HO.out fun g hg => hba.block g (blkOf_own HO.out g hg).2)
  have HB1 := Lib.hid (HB.out.trans (hba.mono HB.out.size))
  have HS1 := Lib.hid (Nat.le_trans HS.out hba.size)
  have HK1 := Lib.hid (HK.out.trans (KeptO.below hba))
  have V1 := Lib.hid (blk_below X1.out hba (blk4 X1.out).2.2.2.2.2.2.2.2)
  have HW1 := Lib.hid hw1
  clear hba hb1 hw1
  obtain ⟨v0, v1, v2, v3, _, _, _, _, vz⟩ := blk4 V1.out
  rw [HW1.out] at v0 v1 v2 v3
  obtain ⟨k0, k1, k2, k3, _, _, _, _, kz⟩ := blk4 K1.out
  rw [HW1.out] at k0 k1 k2 k3
  have HR := Lib.hid (hcall w1 (.slice p nn m) HB1.out HO1.out)
  clear hcall
  go_wp2_with fail
  rw [← HW1.out]
  refine HR.out.mono ?_
  rintro e w2 ⟨q2, k2, m2', rfl, hp2, hb2, hz2, hk2⟩
  have HP2 := Lib.hid hp2
  have HB2 := Lib.hid hb2
  have HZ2 := Lib.hid (Nat.le_trans HS1.out hz2)
  have HK2 := Lib.hid (HK1.out.trans hk2)
  clear hp2 hb2 hz2 hk2
  go_wp2_with fail
  go_ret
  exact ⟨q2, k2, m2', rfl, HP2.out, HB2.out, HZ2.out, HK2.out⟩

set_option maxRecDepth 100000 in
set_option maxHeartbeats 2000000 in
theorem av_rec (w0 w : World) (v : Value) (l : List UInt8) (p1 p2 p3 p4 : Option Addr) (n1 n2 n3 n4 m1 m2 m3 m4 : Nat) (n : Int) (t : ByteArray)
    (hb : Below w0.heap.size w0 w) (ho : OwnB w w0.heap.size v l) (_ : l.length + 100 ≤ 1099511627776) (r : List UInt8) (hcall : ∀ (W1 : World) (v1 : Value), Below w0.heap.size w0 W1 → OwnB W1 w0.heap.size v1 l → Calls Tryd.prog 103 #[v1, .agg #[.int .i64 7, .slice p1 n1 m1, .slice p2 n2 m2, .slice p3 n3 m3], .slice p4 n4 m4] W1 (AvPost w0 W1 (l ++ r))) :
    Calls Tryd.prog 74 #[v, .agg #[.int .i64 7, .slice p1 n1 m1, .slice p2 n2 m2, .slice p3 n3 m3], .agg #[.int .i64 7, .int .i64 n, .string t, .slice p4 n4 m4]] w (AvPost w0 w (l ++ r)) := by
  obtain ⟨p, nn, m, rfl⟩ := ho.slice
  obtain ⟨x0, x1⟩ := two_new w (.cells #[.int .i64 7, .slice p1 n1 m1, .slice p2 n2 m2, .slice p3 n3 m3] 26) (.cells #[.int .i64 7, .int .i64 n, .string t, .slice p4 n4 m4] 55)
  obtain ⟨W, hW⟩ : ∃ W, W = (w.alloc (.cells #[.int .i64 7, .slice p1 n1 m1, .slice p2 n2 m2, .slice p3 n3 m3] 26)).alloc (.cells #[.int .i64 7, .int .i64 n, .string t, .slice p4 n4 m4] 55) := ⟨_, rfl⟩
  have hbW : Below w.heap.size w W := by rw [hW]; exact (below_alloc w _).alloc (by simp) _
  rw [← hW] at x1
  have HW := Lib.hid hW
  have HO := Lib.hid (own_block (w' := W) ho fun g hg => hbW.block g (blkOf_own ho g hg).2)
  have HB := Lib.hid (hb.trans (hbW.mono hb.size))
  have HS := Lib.hid hbW.size
  have HK := Lib.hid (KeptO.below hbW)
  have X1 := Lib.hid x1
  have u0 := ta_no_flag 104 (by decide)
  have u1 := ta_no_num 104 (by decide)
  have u2 := ta_no_text 104 (by decide)
  have u3 := ta_no_pick 104 (by decide)
  have u4 := ta_no_maybe 104 (by decide)
  have u5 := ta_no_list 104 (by decide)
  have u6 := ta_rec
  clear x0 x1 hbW hW hb ho
  go_enter Tryd.func74, Tryd.ntmps74
  go_wp2_with fail
  rw [← HW.out]
  refine (kindOf_rec _ _ _ _ _ _ _ _ _ _).mono ?_
  rintro e w0' ⟨rfl, hb1⟩
  obtain ⟨w1, hw1⟩ : ∃ w1, w1 = w0'.alloc (.cells #[.int .i64 7, .slice p1 n1 m1, .slice p2 n2 m2, .slice p3 n3 m3] 104) := ⟨_, rfl⟩
  have hba : Below W.heap.size W w1 := by rw [hw1]; exact hb1.alloc hb1.size _
  have K1 := Lib.hid (show w1.heap[w0'.heap.size]? = some (.cells #[.int .i64 7, .slice p1 n1 m1, .slice p2 n2 m2, .slice p3 n3 m3] 104 (0, 0)) by rw [hw1]; exact Go.Deep.blk_alloc_new _ _)
  have HO1 := Lib.hid (own_block (w' := w1) HO.out fun g hg => hba.block g (blkOf_own HO.out g hg).2)
  have HB1 := Lib.hid (HB.out.trans (hba.mono HB.out.size))
  have HS1 := Lib.hid (Nat.le_trans HS.out hba.size)
  have HK1 := Lib.hid (HK.out.trans (KeptO.below hba))
  have V1 := Lib.hid (blk_below X1.out hba (blk4 X1.out).2.2.2.2.2.2.2.2)
  have HW1 := Lib.hid hw1
  clear hba hb1 hw1
  obtain ⟨v0, v1, v2, v3, _, _, _, _, vz⟩ := blk4 V1.out
  rw [HW1.out] at v0 v1 v2 v3
  obtain ⟨k0, k1, k2, k3, _, _, _, _, kz⟩ := blk4 K1.out
  rw [HW1.out] at k0 k1 k2 k3
  have HR := Lib.hid (hcall w1 (.slice p nn m) HB1.out HO1.out)
  clear hcall
  go_wp2_with fail
  rw [← HW1.out]
  refine HR.out.mono ?_
  rintro e w2 ⟨q2, k2, m2', rfl, hp2, hb2, hz2, hk2⟩
  have HP2 := Lib.hid hp2
  have HB2 := Lib.hid hb2
  have HZ2 := Lib.hid (Nat.le_trans HS1.out hz2)
  have HK2 := Lib.hid (HK1.out.trans hk2)
  clear hp2 hb2 hz2 hk2
  go_wp2_with fail
  go_ret
  exact ⟨q2, k2, m2', rfl, HP2.out, HB2.out, HZ2.out, HK2.out⟩


/-- impl.appendVal. -/
theorem av_any (d : Nat) (hd : d ≤ 5) : AvAt d := by
  induction d with
  | zero =>
    intro t x w0 w v u ux l hp
    simp [partOk] at hp
  | succ d ih =>
    intro t x w0 w v u ux l hp hf hu hux hb ho hl htab
    have ih' := ih (by omega)
    have hok : VtOk (d + 1) x := ⟨t, hp, hf⟩
    cases t with | mk k sy na su =>
    cases x with | mk k' n tx it =>
    obtain ⟨p1, m1, p2, m2, p3, m3, rfl, _, h1, h2, h3⟩ := hu.open
    obtain ⟨p4, m4, rfl, _, _, _, h4⟩ := hux.open
    simp only [partOk, Bool.and_eq_true] at hp
    obtain ⟨ha, h6, hcs⟩ := vt_cases hok
    have htx : ∀ y ∈ it, y.txt.length ≤ capT d := fun y hy => vtxt_len d y (ha y hy)
    have hl1 : l.length + 100 ≤ 1099511627776 := by simp only [capT] at hl; omega
    simp only [fitB, Va.kd, Va.nn, Va.tx, Va.it, Bool.and_eq_true] at hf
    obtain ⟨he, hf⟩ := hf
    obtain rfl := of_decide_eq_true he
    rcases hcs with ⟨rfl, hn, rfl⟩ | ⟨rfl, h0, h1', rfl⟩ | ⟨rfl, ht, rfl⟩ | ⟨rfl, ht, rfl⟩ | ⟨rfl, hi⟩ | rfl | rfl
    · have := av_flag w0 w v l p1 p2 p3 p4 sy.length na.length su.length 0 m1 m2 m3 m4 n tx hb ho hl1
      rw [show (Va.mk 1 n tx []).txt = flagB n from by simp [Va.txt, flagB]]
      exact this
    · obtain ⟨q, rfl⟩ := Int.eq_ofNat_of_zero_le h0
      have := av_num w0 w v l p1 p2 p3 p4 sy.length na.length su.length 0 m1 m2 m3 m4 q (by omega) htab tx hb ho hl1
      rw [show (Va.mk 2 (q : Int) tx []).txt = decB q from by simp [Va.txt]]
      exact this
    · have := av_text w0 w v l p1 p2 p3 p4 sy.length na.length su.length 0 m1 m2 m3 m4 n tx hb ho hl1 ht
      rw [show (Va.mk 3 n tx []).txt = 34 :: (tx.data.toList ++ [34]) from by simp [Va.txt]]
      exact this
    · have := av_pick w0 w v l p1 p2 p3 p4 sy.length na.length su.length 0 m1 m2 m3 m4 n tx hb ho hl1 ht
      rw [show (Va.mk 4 n tx []).txt = tx.data.toList from by simp [Va.txt]]
      exact this
    · simp [itsOk, Va.nn, Va.tx] at hf
      have hf2 : it.all (fitOne su) = true := List.all_eq_true.2 hf.2.2
      refine av_maybe w0 w v l p1 p2 p3 p4 sy.length na.length su.length it.length m1 m2 m3 m4 n tx hb ho hl1 _ fun W1 v1 hb1 ho1 => ?_
      by_cases hi0 : it.length = 0
      · have := am_none w0 W1 v1 l p1 p2 p3 p4 sy.length na.length su.length m1 m2 m3 m4 hb1 ho1 hl1
        rw [show (Va.mk 5 n tx it).txt = [110, 111, 110, 101] from by simp [Va.txt, hi0], hi0]
        exact this
      · have := am_some d ih' w0 W1 v1 l p1 p2 p3 p4 sy.length na.length m1 m2 m3 m4 su it h3 h4 (by omega) hp.2 hf2 htx hb1 ho1 hl htab
        rw [show (Va.mk 5 n tx it).txt = [115, 111, 109, 101, 40] ++ (joinC (Va.txts it) ++ [41]) from by simp [Va.txt, hi0]]
        exact this
    · simp [itsOk, Va.nn, Va.tx] at hf
      have hf2 : it.all (fitOne su) = true := List.all_eq_true.2 hf.2.2
      refine av_list w0 w v l p1 p2 p3 p4 sy.length na.length su.length it.length m1 m2 m3 m4 n tx hb ho hl1 _ fun W1 v1 hb1 ho1 => ?_
      have := al_any d ih' w0 W1 v1 l p1 p2 p3 p4 sy.length na.length m1 m2 m3 m4 su it h3 h4 h6 hp.2 hf2 htx hb1 ho1 hl htab
      rw [show (Va.mk 6 n tx it).txt = 91 :: (joinC (Va.txts it) ++ [93]) from by simp [Va.txt]]
      exact this
    · simp [itsOk, Va.nn, Va.tx] at hf
      refine av_rec w0 w v l p1 p2 p3 p4 sy.length na.length su.length it.length m1 m2 m3 m4 n tx hb ho hl1 _ fun W1 v1 hb1 ho1 => ?_
      have := ar_any d ih' w0 W1 v1 l p1 p2 p3 p4 sy.length na.length m1 m2 m3 m4 su it h3 h4 h6 hp.2 hf.2 htx hb1 ho1 hl htab
      rw [show (Va.mk 7 n tx it).txt = 40 :: (joinC (Va.txts it) ++ [41]) from by simp [Va.txt]]
      exact this
end Go.Proofs.YtflpfphfoibggaaDoor
