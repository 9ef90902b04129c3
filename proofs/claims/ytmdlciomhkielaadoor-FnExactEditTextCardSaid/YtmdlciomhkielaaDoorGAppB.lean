/- Walks: impl.appendShape at the kinds that hold something. · Walks: impl.appendShape at any right shape; impl.ShapeText. -/
import Derived.Test.YtmdlciomhkielaaDoorGApp2W
namespace Go.Proofs.YtmdlciomhkielaaDoor
open Go.RowKit

set_option maxRecDepth 100000 in
set_option maxHeartbeats 2000000 in
theorem app_pick (w0 w : World) (v : Value) (l : List UInt8) (p1 p2 p3 : Option Addr) (n1 n2 n3 m1 m2 m3 : Nat)
    (hb : Below w0.heap.size w0 w) (ho : OwnB w w0.heap.size v l) (hl : l.length + 80 ≤ 1099511627776) (sy : List ByteArray) (hsy : IsStrs w0 (.slice p1 n1 m1) sy) (hs8 : ∀ s ∈ sy, s.size ≤ 8) (h6 : sy.length ≤ 6) (hkw : KwAt w0) :
    Calls Tryd.prog 97 #[v, .agg #[.int .i64 4, .slice p1 n1 m1, .slice p2 n2 m2, .slice p3 n3 m3]] w (AppPost w0 w (l ++ (kwB 4 ++ 40 :: (joinC (sy.map (·.data.toList)) ++ [41])))) := by
  obtain ⟨p, n, m, rfl⟩ := ho.slice
  have HO := Lib.hid (own_block ho fun g hg => (below_alloc w (.cells #[.int .i64 4, .slice p1 n1 m1, .slice p2 n2 m2, .slice p3 n3 m3] 25)).block g (blkOf_own ho g hg).2)
  have HB := Lib.hid (hb.alloc hb.size (.cells #[.int .i64 4, .slice p1 n1 m1, .slice p2 n2 m2, .slice p3 n3 m3] 25))
  have HX := Lib.hid (Go.Deep.blk_alloc_new w (.cells #[.int .i64 4, .slice p1 n1 m1, .slice p2 n2 m2, .slice p3 n3 m3] 25))
  have HA := Lib.hid (below_alloc w (.cells #[.int .i64 4, .slice p1 n1 m1, .slice p2 n2 m2, .slice p3 n3 m3] 25))
  have h1 := Keeps.of_below hb _ _ _ (hkw 4 (by decide))
  have h0 : 1 < w.heap.size := World.block_lt_of_cell? w ⟨1, 4, none⟩ h1
  obtain ⟨kw, hkw'⟩ : ∃ kw, kw = kwB 4 := ⟨_, rfl⟩
  have HS : Hid (kw.length ≤ 5) := by rw [hkw']; exact kwB_len _
  change w.cell? ⟨1, 4, none⟩ = some (.string ⟨(kwB 4).toArray⟩) at h1
  rw [← hkw'] at h1 ⊢
  have u1 := ta_pick
  have HSY := Lib.hid hsy
  have HS8 := Lib.hid hs8
  clear hsy hs8
  clear hb ho hkw hkw'
  go_enter Tryd.func97, Tryd.ntmps97
  go_wp2_with (at_builtin; go_must (refine wpList_strK _ rfl (.tmp 10) (.tmp 14) rfl w0.heap.size (.slice p n m) l ⟨kw.toArray⟩ rfl HO.out rfl (len_ok (by omega) (by have := HS.out; show kw.toArray.size ≤ _; simp; omega)) HB.out.size ?_))
  intro v' w1 hv' hb1 hk1
  obtain ⟨p', n', m', rfl⟩ := hv'.slice
  have HP1 : Hid (OwnB w1 w0.heap.size (.slice p' n' m') (l ++ kw)) := by show OwnB _ _ _ _; simpa using hv'
  have HB1 := Lib.hid (hb1 _ _ HB.out (Nat.le_refl _))
  have HX1 := Lib.hid (hk1 _ _ HX.out (fun cur h => by cases h))
  have HZ1 := Lib.hid (Nat.le_trans HA.out.size (hb1 0 _ (Below.refl _ _) (Nat.zero_le _)).size)
  have HK1 := Lib.hid ((Kept.below HA.out).trans hk1)
  clear hv' hb1 hk1 h1 h0
  obtain ⟨a0, a1, a2, a3, _, _, _, _, az⟩ := blk4 HX1.out
  go_wp2_with fail
  refine (kindOf_pick _ _ _ _ _ _ _ _ _ _).mono ?_
  rintro e w2 ⟨rfl, hb2⟩
  have HP2 := Lib.hid (own_block HP1.out fun g hg => hb2.block g (blkOf_own HP1.out g hg).2)
  have HB2 := Lib.hid (HB1.out.trans (hb2.mono HB1.out.size))
  have HZ2 := Lib.hid (Nat.le_trans HZ1.out hb2.size)
  have HK2 := Lib.hid (HK1.out.trans (Kept.below hb2))
  clear hb2 a0 a1 a2 a3 az
  go_wp2_with fail
  obtain ⟨L2, hL2⟩ : ∃ L2, L2 = l ++ kw := ⟨_, rfl⟩
  have HP2' := HP2.out
  rw [← hL2] at HP2'
  have HL2 := Lib.hid hL2
  have HM2 : Hid (L2.length ≤ l.length + 5) := by show _ ≤ _; rw [hL2, List.length_append]; have := HS.out; omega
  have HP3 := Lib.hid (own_block HP2' fun g hg => (below_alloc w2 (.cells #[.int .i64 4, .slice p1 n1 m1, .slice p2 n2 m2, .slice p3 n3 m3] 136)).block g (blkOf_own HP2' g hg).2)
  have HB3 := Lib.hid (HB2.out.alloc HB2.out.size (.cells #[.int .i64 4, .slice p1 n1 m1, .slice p2 n2 m2, .slice p3 n3 m3] 136))
  have HZ3 := Lib.hid (Nat.le_trans HZ2.out (below_alloc w2 (.cells #[.int .i64 4, .slice p1 n1 m1, .slice p2 n2 m2, .slice p3 n3 m3] 136)).size)
  have HK3 := Lib.hid (HK2.out.trans (Kept.below (below_alloc w2 (.cells #[.int .i64 4, .slice p1 n1 m1, .slice p2 n2 m2, .slice p3 n3 m3] 136))))
  have HX3 := Lib.hid (Go.Deep.blk_alloc_new w2 (.cells #[.int .i64 4, .slice p1 n1 m1, .slice p2 n2 m2, .slice p3 n3 m3] 136))
  obtain ⟨w3, hw3⟩ : ∃ w3, w3 = w2.alloc (.cells #[.int .i64 4, .slice p1 n1 m1, .slice p2 n2 m2, .slice p3 n3 m3] 136) := ⟨_, rfl⟩
  rw [← hw3] at HP3 HB3 HZ3 HK3 HX3 ⊢
  clear hw3 hL2 HP2'
  obtain ⟨x0, x1, x2, x3, _, _, _, _, xz⟩ := blk4 HX3.out
  go_region_law (first
    | (go_simp; go_at_call 114; refine (appSyms_any w0 _ _ _ _ sy HSY.out HB5.out HP5.out (by have := HM2.out; rw [List.length_append]; simp; omega) HS8.out h6).mono ?_; rintro e w6 ⟨p6, n6, m6, rfl, hp6, hb6, hz6, hk6⟩; have HP6 := Lib.hid hp6; have HB6 := Lib.hid hb6; have HZ6 := Lib.hid (Nat.le_trans HZ5.out hz6); have HK6 := Lib.hid (HK5.out.trans hk6); clear hp6 hb6 hz6 hk6)
    | (refine step_byte w3 rfl _ _ rfl w0.heap.size (.slice p' n' m') L2 40 40 rfl HP3.out rfl rfl (by have := HM2.out; omega) HB3.out.size ?_; intro v5 w5 hv5 hb5 hk5; obtain ⟨p5, n5, m5, rfl⟩ := hv5.slice; have HP5 := Lib.hid hv5; have HB5 := Lib.hid (hb5 _ _ HB3.out (Nat.le_refl _)); have HZ5 := Lib.hid (Nat.le_trans HZ3.out (hb5 0 w3 (Below.refl _ _) (Nat.zero_le _)).size); have HK5 := Lib.hid (HK3.out.trans hk5); obtain ⟨_, _, _, _, _, _, _, _, _⟩ := blk4 (hk5 _ _ HX3.out (fun cur h => by cases h)); clear hv5 hb5 hk5))
  all_goals
    clear x0 x1 x2 x3 xz
    obtain ⟨L6, hL6⟩ : ∃ L6, L6 = (L2 ++ [40]) ++ joinC (sy.map (·.data.toList)) := ⟨_, rfl⟩
    have HP6' := HP6.out
    rw [← hL6] at HP6'
    have HP7 := Lib.hid HP6'
    have HL6 := Lib.hid hL6
    have HM6 : Hid (L6.length < 70368744177664) := by
      show _ < _
      have h1 := HM2.out
      have h2 := joinC_take_len sy HS8.out h6 sy.length; rw [List.take_length] at h2
      rw [hL6, List.length_append, List.length_append]
      simp only [List.length_cons, List.length_nil]
      omega
    clear hL6 HP6'
    go_wp2_with (at_builtin; go_must (refine wpList_byteK w6 rfl (.tmp 58) (.tmp 59) rfl w0.heap.size (.slice p6 n6 m6) L6 41 41 rfl HP7.out rfl rfl HM6.out HB6.out.size ?_))
    intro v7 w7 hv7 hb7 hk7
    obtain ⟨p7, n7, m7, rfl⟩ := hv7.slice
    have HP8 := Lib.hid hv7
    have HB7 := Lib.hid (hb7 _ _ HB6.out (Nat.le_refl _))
    have HZ7 := Lib.hid (Nat.le_trans HZ6.out (hb7 0 w6 (Below.refl _ _) (Nat.zero_le _)).size)
    have HK7 := Lib.hid (HK6.out.trans hk7)
    clear hv7 hb7 hk7
    go_wp2_with fail
    go_ret
    have h8 := HP8.out
    rw [HL6.out, HL2.out] at h8
    exact ⟨p7, n7, m7, rfl, by simpa using h8, HB7.out, HZ7.out, HK7.out⟩
set_option maxRecDepth 100000 in
set_option maxHeartbeats 2000000 in
theorem app_maybe (w0 w : World) (v : Value) (l : List UInt8) (p1 p2 p3 : Option Addr) (n1 n2 n3 m1 m2 m3 : Nat)
    (hb : Below w0.heap.size w0 w) (ho : OwnB w w0.heap.size v l) (hl : l.length + 80 ≤ 1099511627776) (d : Nat) (ih : ApAt KwAt d) (x : Sh) (su : List Sh) (hx : su = [x]) (hn3 : n3 = su.length) (hsu : IsShs w0 (.slice p3 n3 m3) su) (hpx : partOk d x = true) (hlx : l.length + 80 + capT d ≤ 1099511627776) (hkw : KwAt w0) :
    Calls Tryd.prog 97 #[v, .agg #[.int .i64 5, .slice p1 n1 m1, .slice p2 n2 m2, .slice p3 n3 m3]] w (AppPost w0 w (l ++ (kwB 5 ++ 40 :: (x.txt ++ [41])))) := by
  obtain ⟨p, n, m, rfl⟩ := ho.slice
  have HO := Lib.hid (own_block ho fun g hg => (below_alloc w (.cells #[.int .i64 5, .slice p1 n1 m1, .slice p2 n2 m2, .slice p3 n3 m3] 25)).block g (blkOf_own ho g hg).2)
  have HB := Lib.hid (hb.alloc hb.size (.cells #[.int .i64 5, .slice p1 n1 m1, .slice p2 n2 m2, .slice p3 n3 m3] 25))
  have HX := Lib.hid (Go.Deep.blk_alloc_new w (.cells #[.int .i64 5, .slice p1 n1 m1, .slice p2 n2 m2, .slice p3 n3 m3] 25))
  have HA := Lib.hid (below_alloc w (.cells #[.int .i64 5, .slice p1 n1 m1, .slice p2 n2 m2, .slice p3 n3 m3] 25))
  have h1 := Keeps.of_below hb _ _ _ (hkw 5 (by decide))
  have h0 : 1 < w.heap.size := World.block_lt_of_cell? w ⟨1, 5, none⟩ h1
  obtain ⟨kw, hkw'⟩ : ∃ kw, kw = kwB 5 := ⟨_, rfl⟩
  have HS : Hid (kw.length ≤ 5) := by rw [hkw']; exact kwB_len _
  change w.cell? ⟨1, 5, none⟩ = some (.string ⟨(kwB 5).toArray⟩) at h1
  rw [← hkw'] at h1 ⊢
  have u1 := ta_no_pick 138 (by decide)
  have u2 := ta_maybe
  obtain ⟨a3', cap3, e3, _, hc3, g3⟩ := hsu
  simp only [Value.slice.injEq] at e3
  obtain ⟨rfl, e4, rfl⟩ := e3
  clear e4
  have h00 : 0 < su.length := by rw [hx]; simp
  obtain ⟨b', off', rfl, c0, c1, c2, c3, s0, s1, s2, s3, s4⟩ := IsShs.at g3 h00
  have s4' : IsSh w0 x (.agg #[c0, c1, c2, c3]) := by subst hx; exact s4
  obtain ⟨q1, i1, j1, q2, i2, j2, q3, i3, j3, rfl, rfl, rfl, rfl⟩ := s4'.cells
  simp only [Nat.zero_mul, Nat.add_zero] at s0 s1 s2 s3
  have HS0 := Lib.hid (And.intro s0 (And.intro s1 (And.intro s2 s3)))
  have HS4 := Lib.hid s4'
  have n30 : (0 : Int) < (n3 : Int) := by omega
  have n31 : 0 < n3 := by omega
  have HPX := Lib.hid hpx
  have IH := Lib.hid ih
  have HTX := Lib.hid (txt_len d x hpx)
  have HKW := Lib.hid hkw
  clear g3 s0 s1 s2 s3 s4 s4' hpx ih hx hn3 h00
  clear hb ho hkw'
  go_enter Tryd.func97, Tryd.ntmps97
  go_wp2_with (at_builtin; go_must (refine wpList_strK _ rfl (.tmp 10) (.tmp 14) rfl w0.heap.size (.slice p n m) l ⟨kw.toArray⟩ rfl HO.out rfl (len_ok (by omega) (by have := HS.out; show kw.toArray.size ≤ _; simp; omega)) HB.out.size ?_))
  intro v' w1 hv' hb1 hk1
  obtain ⟨p', n', m', rfl⟩ := hv'.slice
  have HP1 : Hid (OwnB w1 w0.heap.size (.slice p' n' m') (l ++ kw)) := by show OwnB _ _ _ _; simpa using hv'
  have HB1 := Lib.hid (hb1 _ _ HB.out (Nat.le_refl _))
  have HX1 := Lib.hid (hk1 _ _ HX.out (fun cur h => by cases h))
  have HZ1 := Lib.hid (Nat.le_trans HA.out.size (hb1 0 _ (Below.refl _ _) (Nat.zero_le _)).size)
  have HK1 := Lib.hid ((Kept.below HA.out).trans hk1)
  clear hv' hb1 hk1 h1 h0
  obtain ⟨a0, a1, a2, a3, _, _, _, _, az⟩ := blk4 HX1.out
  go_wp2_with fail
  refine (kindOf_maybe _ _ _ _ _ _ _ _ _ _).mono ?_
  rintro e w2 ⟨rfl, hb2⟩
  have HP2 := Lib.hid (own_block HP1.out fun g hg => hb2.block g (blkOf_own HP1.out g hg).2)
  have HB2 := Lib.hid (HB1.out.trans (hb2.mono HB1.out.size))
  have HZ2 := Lib.hid (Nat.le_trans HZ1.out hb2.size)
  have HK2 := Lib.hid (HK1.out.trans (Kept.below hb2))
  clear hb2 a0 a1 a2 a3 az
  go_wp2_with fail
  obtain ⟨L2, hL2⟩ : ∃ L2, L2 = l ++ kw := ⟨_, rfl⟩
  have HP2' := HP2.out
  rw [← hL2] at HP2'
  have HL2 := Lib.hid hL2
  have HM2 : Hid (L2.length ≤ l.length + 5) := by show _ ≤ _; rw [hL2, List.length_append]; have := HS.out; omega
  have HP3 := Lib.hid (own_block HP2' fun g hg => (below_alloc w2 (.cells #[.int .i64 5, .slice p1 n1 m1, .slice p2 n2 m2, .slice (some ⟨b', off', none⟩) n3 m3] 138)).block g (blkOf_own HP2' g hg).2)
  have HB3 := Lib.hid (HB2.out.alloc HB2.out.size (.cells #[.int .i64 5, .slice p1 n1 m1, .slice p2 n2 m2, .slice (some ⟨b', off', none⟩) n3 m3] 138))
  have HZ3 := Lib.hid (Nat.le_trans HZ2.out (below_alloc w2 (.cells #[.int .i64 5, .slice p1 n1 m1, .slice p2 n2 m2, .slice (some ⟨b', off', none⟩) n3 m3] 138)).size)
  have HK3 := Lib.hid (HK2.out.trans (Kept.below (below_alloc w2 (.cells #[.int .i64 5, .slice p1 n1 m1, .slice p2 n2 m2, .slice (some ⟨b', off', none⟩) n3 m3] 138))))
  have HX3 := Lib.hid (Go.Deep.blk_alloc_new w2 (.cells #[.int .i64 5, .slice p1 n1 m1, .slice p2 n2 m2, .slice (some ⟨b', off', none⟩) n3 m3] 138))
  obtain ⟨w3, hw3⟩ : ∃ w3, w3 = w2.alloc (.cells #[.int .i64 5, .slice p1 n1 m1, .slice p2 n2 m2, .slice (some ⟨b', off', none⟩) n3 m3] 138) := ⟨_, rfl⟩
  rw [← hw3] at HP3 HB3 HZ3 HK3 HX3 ⊢
  clear hw3 hL2 HP2'
  obtain ⟨x0, x1, x2, x3, _, _, _, _, xz⟩ := blk4 HX3.out
  have z0 := Keeps.of_below HB3.out _ _ _ HS0.out.1
  have z1 := Keeps.of_below HB3.out _ _ _ HS0.out.2.1
  have z2 := Keeps.of_below HB3.out _ _ _ HS0.out.2.2.1
  have z3 := Keeps.of_below HB3.out _ _ _ HS0.out.2.2.2
  have zb : b' < w3.heap.size := World.block_lt_of_cell? w3 ⟨b', off', none⟩ z0
  go_region_law (first
    | (go_simp; go_at_call 97; refine (IH.out x w0 _ _ _ _ HPX.out HS4.out HB5.out HP5.out (by have := HM2.out; rw [List.length_append]; simp; omega) HKW.out).mono ?_; rintro e w6 ⟨p6, n6, m6, rfl, hp6, hb6, hz6, hk6⟩; have HP6 := Lib.hid hp6; have HB6 := Lib.hid hb6; have HZ6 := Lib.hid (Nat.le_trans HZ5.out hz6); have HK6 := Lib.hid (HK5.out.trans hk6); clear hp6 hb6 hz6 hk6)
    | (refine step_byte w3 rfl _ _ rfl w0.heap.size (.slice p' n' m') L2 40 40 rfl HP3.out rfl rfl (by have := HM2.out; omega) HB3.out.size ?_; intro v5 w5 hv5 hb5 hk5; obtain ⟨p5, n5, m5, rfl⟩ := hv5.slice; have HP5 := Lib.hid hv5; have HB5 := Lib.hid (hb5 _ _ HB3.out (Nat.le_refl _)); have HZ5 := Lib.hid (Nat.le_trans HZ3.out (hb5 0 w3 (Below.refl _ _) (Nat.zero_le _)).size); have HK5 := Lib.hid (HK3.out.trans hk5); obtain ⟨_, _, _, _, _, _, _, _, _⟩ := blk4 (hk5 _ _ HX3.out (fun cur h => by cases h)); have y0 := Keeps.of_below HB5.out _ _ _ HS0.out.1; have y1 := Keeps.of_below HB5.out _ _ _ HS0.out.2.1; have y2 := Keeps.of_below HB5.out _ _ _ HS0.out.2.2.1; have y3 := Keeps.of_below HB5.out _ _ _ HS0.out.2.2.2; clear hv5 hb5 hk5))
  all_goals
    clear x0 x1 x2 x3 xz
    obtain ⟨L6, hL6⟩ : ∃ L6, L6 = (L2 ++ [40]) ++ x.txt := ⟨_, rfl⟩
    have HP6' := HP6.out
    rw [← hL6] at HP6'
    have HP7 := Lib.hid HP6'
    have HL6 := Lib.hid hL6
    have HM6 : Hid (L6.length < 70368744177664) := by
      show _ < _
      have h1 := HM2.out
      have h2 := HTX.out
      rw [hL6, List.length_append, List.length_append]
      simp only [List.length_cons, List.length_nil]
      omega
    clear hL6 HP6'
    go_wp2_with (at_builtin; go_must (refine wpList_byteK w6 rfl (.tmp 58) (.tmp 59) rfl w0.heap.size (.slice p6 n6 m6) L6 41 41 rfl HP7.out rfl rfl HM6.out HB6.out.size ?_))
    intro v7 w7 hv7 hb7 hk7
    obtain ⟨p7, n7, m7, rfl⟩ := hv7.slice
    have HP8 := Lib.hid hv7
    have HB7 := Lib.hid (hb7 _ _ HB6.out (Nat.le_refl _))
    have HZ7 := Lib.hid (Nat.le_trans HZ6.out (hb7 0 w6 (Below.refl _ _) (Nat.zero_le _)).size)
    have HK7 := Lib.hid (HK6.out.trans hk7)
    clear hv7 hb7 hk7
    go_wp2_with fail
    go_ret
    have h8 := HP8.out
    rw [HL6.out, HL2.out] at h8
    exact ⟨p7, n7, m7, rfl, by simpa using h8, HB7.out, HZ7.out, HK7.out⟩
set_option maxRecDepth 100000 in
set_option maxHeartbeats 2000000 in
theorem app_lists (w0 w : World) (v : Value) (l : List UInt8) (p1 p2 p3 : Option Addr) (n1 n2 n3 m1 m2 m3 : Nat)
    (hb : Below w0.heap.size w0 w) (ho : OwnB w w0.heap.size v l) (hl : l.length + 80 ≤ 1099511627776) (d : Nat) (ih : ApAt KwAt d) (x : Sh) (su : List Sh) (hx : su = [x]) (hn3 : n3 = su.length) (hsu : IsShs w0 (.slice p3 n3 m3) su) (hpx : partOk d x = true) (hlx : l.length + 80 + capT d ≤ 1099511627776) (hkw : KwAt w0) :
    Calls Tryd.prog 97 #[v, .agg #[.int .i64 6, .slice p1 n1 m1, .slice p2 n2 m2, .slice p3 n3 m3]] w (AppPost w0 w (l ++ (kwB 6 ++ 40 :: (x.txt ++ [41])))) := by
  obtain ⟨p, n, m, rfl⟩ := ho.slice
  have HO := Lib.hid (own_block ho fun g hg => (below_alloc w (.cells #[.int .i64 6, .slice p1 n1 m1, .slice p2 n2 m2, .slice p3 n3 m3] 25)).block g (blkOf_own ho g hg).2)
  have HB := Lib.hid (hb.alloc hb.size (.cells #[.int .i64 6, .slice p1 n1 m1, .slice p2 n2 m2, .slice p3 n3 m3] 25))
  have HX := Lib.hid (Go.Deep.blk_alloc_new w (.cells #[.int .i64 6, .slice p1 n1 m1, .slice p2 n2 m2, .slice p3 n3 m3] 25))
  have HA := Lib.hid (below_alloc w (.cells #[.int .i64 6, .slice p1 n1 m1, .slice p2 n2 m2, .slice p3 n3 m3] 25))
  have h1 := Keeps.of_below hb _ _ _ (hkw 6 (by decide))
  have h0 : 1 < w.heap.size := World.block_lt_of_cell? w ⟨1, 6, none⟩ h1
  obtain ⟨kw, hkw'⟩ : ∃ kw, kw = kwB 6 := ⟨_, rfl⟩
  have HS : Hid (kw.length ≤ 5) := by rw [hkw']; exact kwB_len _
  change w.cell? ⟨1, 6, none⟩ = some (.string ⟨(kwB 6).toArray⟩) at h1
  rw [← hkw'] at h1 ⊢
  have u1 := ta_no_pick 139 (by decide)
  have u2 := ta_no_maybe 139 (by decide)
  have u3 := ta_list
  obtain ⟨a3', cap3, e3, _, hc3, g3⟩ := hsu
  simp only [Value.slice.injEq] at e3
  obtain ⟨rfl, e4, rfl⟩ := e3
  clear e4
  have h00 : 0 < su.length := by rw [hx]; simp
  obtain ⟨b', off', rfl, c0, c1, c2, c3, s0, s1, s2, s3, s4⟩ := IsShs.at g3 h00
  have s4' : IsSh w0 x (.agg #[c0, c1, c2, c3]) := by subst hx; exact s4
  obtain ⟨q1, i1, j1, q2, i2, j2, q3, i3, j3, rfl, rfl, rfl, rfl⟩ := s4'.cells
  simp only [Nat.zero_mul, Nat.add_zero] at s0 s1 s2 s3
  have HS0 := Lib.hid (And.intro s0 (And.intro s1 (And.intro s2 s3)))
  have HS4 := Lib.hid s4'
  have n30 : (0 : Int) < (n3 : Int) := by omega
  have n31 : 0 < n3 := by omega
  have HPX := Lib.hid hpx
  have IH := Lib.hid ih
  have HTX := Lib.hid (txt_len d x hpx)
  have HKW := Lib.hid hkw
  clear g3 s0 s1 s2 s3 s4 s4' hpx ih hx hn3 h00
  clear hb ho hkw'
  go_enter Tryd.func97, Tryd.ntmps97
  go_wp2_with (at_builtin; go_must (refine wpList_strK _ rfl (.tmp 10) (.tmp 14) rfl w0.heap.size (.slice p n m) l ⟨kw.toArray⟩ rfl HO.out rfl (len_ok (by omega) (by have := HS.out; show kw.toArray.size ≤ _; simp; omega)) HB.out.size ?_))
  intro v' w1 hv' hb1 hk1
  obtain ⟨p', n', m', rfl⟩ := hv'.slice
  have HP1 : Hid (OwnB w1 w0.heap.size (.slice p' n' m') (l ++ kw)) := by show OwnB _ _ _ _; simpa using hv'
  have HB1 := Lib.hid (hb1 _ _ HB.out (Nat.le_refl _))
  have HX1 := Lib.hid (hk1 _ _ HX.out (fun cur h => by cases h))
  have HZ1 := Lib.hid (Nat.le_trans HA.out.size (hb1 0 _ (Below.refl _ _) (Nat.zero_le _)).size)
  have HK1 := Lib.hid ((Kept.below HA.out).trans hk1)
  clear hv' hb1 hk1 h1 h0
  obtain ⟨a0, a1, a2, a3, _, _, _, _, az⟩ := blk4 HX1.out
  go_wp2_with fail
  refine (kindOf_list _ _ _ _ _ _ _ _ _ _).mono ?_
  rintro e w2 ⟨rfl, hb2⟩
  have HP2 := Lib.hid (own_block HP1.out fun g hg => hb2.block g (blkOf_own HP1.out g hg).2)
  have HB2 := Lib.hid (HB1.out.trans (hb2.mono HB1.out.size))
  have HZ2 := Lib.hid (Nat.le_trans HZ1.out hb2.size)
  have HK2 := Lib.hid (HK1.out.trans (Kept.below hb2))
  clear hb2 a0 a1 a2 a3 az
  go_wp2_with fail
  obtain ⟨L2, hL2⟩ : ∃ L2, L2 = l ++ kw := ⟨_, rfl⟩
  have HP2' := HP2.out
  rw [← hL2] at HP2'
  have HL2 := Lib.hid hL2
  have HM2 : Hid (L2.length ≤ l.length + 5) := by show _ ≤ _; rw [hL2, List.length_append]; have := HS.out; omega
  have HP3 := Lib.hid (own_block HP2' fun g hg => (below_alloc w2 (.cells #[.int .i64 6, .slice p1 n1 m1, .slice p2 n2 m2, .slice (some ⟨b', off', none⟩) n3 m3] 139)).block g (blkOf_own HP2' g hg).2)
  have HB3 := Lib.hid (HB2.out.alloc HB2.out.size (.cells #[.int .i64 6, .slice p1 n1 m1, .slice p2 n2 m2, .slice (some ⟨b', off', none⟩) n3 m3] 139))
  have HZ3 := Lib.hid (Nat.le_trans HZ2.out (below_alloc w2 (.cells #[.int .i64 6, .slice p1 n1 m1, .slice p2 n2 m2, .slice (some ⟨b', off', none⟩) n3 m3] 139)).size)
  have HK3 := Lib.hid (HK2.out.trans (Kept.below (below_alloc w2 (.cells #[.int .i64 6, .slice p1 n1 m1, .slice p2 n2 m2, .slice (some ⟨b', off', none⟩) n3 m3] 139))))
  have HX3 := Lib.hid (Go.Deep.blk_alloc_new w2 (.cells #[.int .i64 6, .slice p1 n1 m1, .slice p2 n2 m2, .slice (some ⟨b', off', none⟩) n3 m3] 139))
  obtain ⟨w3, hw3⟩ : ∃ w3, w3 = w2.alloc (.cells #[.int .i64 6, .slice p1 n1 m1, .slice p2 n2 m2, .slice (some ⟨b', off', none⟩) n3 m3] 139) := ⟨_, rfl⟩
  rw [← hw3] at HP3 HB3 HZ3 HK3 HX3 ⊢
  clear hw3 hL2 HP2'
  obtain ⟨x0, x1, x2, x3, _, _, _, _, xz⟩ := blk4 HX3.out
  have z0 := Keeps.of_below HB3.out _ _ _ HS0.out.1
  have z1 := Keeps.of_below HB3.out _ _ _ HS0.out.2.1
  have z2 := Keeps.of_below HB3.out _ _ _ HS0.out.2.2.1
  have z3 := Keeps.of_below HB3.out _ _ _ HS0.out.2.2.2
  have zb : b' < w3.heap.size := World.block_lt_of_cell? w3 ⟨b', off', none⟩ z0
  go_region_law (first
    | (go_simp; go_at_call 97; refine (IH.out x w0 _ _ _ _ HPX.out HS4.out HB5.out HP5.out (by have := HM2.out; rw [List.length_append]; simp; omega) HKW.out).mono ?_; rintro e w6 ⟨p6, n6, m6, rfl, hp6, hb6, hz6, hk6⟩; have HP6 := Lib.hid hp6; have HB6 := Lib.hid hb6; have HZ6 := Lib.hid (Nat.le_trans HZ5.out hz6); have HK6 := Lib.hid (HK5.out.trans hk6); clear hp6 hb6 hz6 hk6)
    | (refine step_byte w3 rfl _ _ rfl w0.heap.size (.slice p' n' m') L2 40 40 rfl HP3.out rfl rfl (by have := HM2.out; omega) HB3.out.size ?_; intro v5 w5 hv5 hb5 hk5; obtain ⟨p5, n5, m5, rfl⟩ := hv5.slice; have HP5 := Lib.hid hv5; have HB5 := Lib.hid (hb5 _ _ HB3.out (Nat.le_refl _)); have HZ5 := Lib.hid (Nat.le_trans HZ3.out (hb5 0 w3 (Below.refl _ _) (Nat.zero_le _)).size); have HK5 := Lib.hid (HK3.out.trans hk5); obtain ⟨_, _, _, _, _, _, _, _, _⟩ := blk4 (hk5 _ _ HX3.out (fun cur h => by cases h)); have y0 := Keeps.of_below HB5.out _ _ _ HS0.out.1; have y1 := Keeps.of_below HB5.out _ _ _ HS0.out.2.1; have y2 := Keeps.of_below HB5.out _ _ _ HS0.out.2.2.1; have y3 := Keeps.of_below HB5.out _ _ _ HS0.out.2.2.2; clear hv5 hb5 hk5))
  all_goals
    clear x0 x1 x2 x3 xz
    obtain ⟨L6, hL6⟩ : ∃ L6, L6 = (L2 ++ [40]) ++ x.txt := ⟨_, rfl⟩
    have HP6' := HP6.out
    rw [← hL6] at HP6'
    have HP7 := Lib.hid HP6'
    have HL6 := Lib.hid hL6
    have HM6 : Hid (L6.length < 70368744177664) := by
      show _ < _
      have h1 := HM2.out
      have h2 := HTX.out
      rw [hL6, List.length_append, List.length_append]
      simp only [List.length_cons, List.length_nil]
      omega
    clear hL6 HP6'
    go_wp2_with (at_builtin; go_must (refine wpList_byteK w6 rfl (.tmp 58) (.tmp 59) rfl w0.heap.size (.slice p6 n6 m6) L6 41 41 rfl HP7.out rfl rfl HM6.out HB6.out.size ?_))
    intro v7 w7 hv7 hb7 hk7
    obtain ⟨p7, n7, m7, rfl⟩ := hv7.slice
    have HP8 := Lib.hid hv7
    have HB7 := Lib.hid (hb7 _ _ HB6.out (Nat.le_refl _))
    have HZ7 := Lib.hid (Nat.le_trans HZ6.out (hb7 0 w6 (Below.refl _ _) (Nat.zero_le _)).size)
    have HK7 := Lib.hid (HK6.out.trans hk7)
    clear hv7 hb7 hk7
    go_wp2_with fail
    go_ret
    have h8 := HP8.out
    rw [HL6.out, HL2.out] at h8
    exact ⟨p7, n7, m7, rfl, by simpa using h8, HB7.out, HZ7.out, HK7.out⟩
set_option maxRecDepth 100000 in
set_option maxHeartbeats 2000000 in
theorem app_rec (w0 w : World) (v : Value) (l : List UInt8) (p1 p2 p3 : Option Addr) (n1 m1 m2 m3 : Nat) (na : List ByteArray) (su : List Sh)
    (hb : Below w0.heap.size w0 w) (ho : OwnB w w0.heap.size v l) (hl : l.length + 80 ≤ 1099511627776) (d : Nat) (hd5 : d ≤ 5) (ih : ApAt KwAt d) (hna : IsStrs w0 (.slice p2 na.length m2) na) (hsu : IsShs w0 (.slice p3 su.length m3) su) (hl2 : su.length = na.length) (h6 : na.length ≤ 6) (h8 : ∀ s ∈ na, s.size ≤ 8) (hsp : su.all (partOk d) = true) (hlx : l.length + 90 + 6 * capT d ≤ 1099511627776) (hkw : KwAt w0) :
    Calls Tryd.prog 97 #[v, .agg #[.int .i64 7, .slice p1 n1 m1, .slice p2 na.length m2, .slice p3 su.length m3]] w (AppPost w0 w (l ++ (kwB 7 ++ 40 :: (joinC (Sh.items 7 na su) ++ [41])))) := by
  obtain ⟨p, n, m, rfl⟩ := ho.slice
  have HO := Lib.hid (own_block ho fun g hg => (below_alloc w (.cells #[.int .i64 7, .slice p1 n1 m1, .slice p2 na.length m2, .slice p3 su.length m3] 25)).block g (blkOf_own ho g hg).2)
  have HB := Lib.hid (hb.alloc hb.size (.cells #[.int .i64 7, .slice p1 n1 m1, .slice p2 na.length m2, .slice p3 su.length m3] 25))
  have HX := Lib.hid (Go.Deep.blk_alloc_new w (.cells #[.int .i64 7, .slice p1 n1 m1, .slice p2 na.length m2, .slice p3 su.length m3] 25))
  have HA := Lib.hid (below_alloc w (.cells #[.int .i64 7, .slice p1 n1 m1, .slice p2 na.length m2, .slice p3 su.length m3] 25))
  have h1 := Keeps.of_below hb _ _ _ (hkw 7 (by decide))
  have h0 : 1 < w.heap.size := World.block_lt_of_cell? w ⟨1, 7, none⟩ h1
  obtain ⟨kw, hkw'⟩ : ∃ kw, kw = kwB 7 := ⟨_, rfl⟩
  have HS : Hid (kw.length ≤ 5) := by rw [hkw']; exact kwB_len _
  change w.cell? ⟨1, 7, none⟩ = some (.string ⟨(kwB 7).toArray⟩) at h1
  rw [← hkw'] at h1 ⊢
  have u1 := ta_no_pick 140 (by decide)
  have u2 := ta_no_maybe 140 (by decide)
  have u3 := ta_no_list 140 (by decide)
  have u4 := ta_rec
  have HNA := Lib.hid hna
  have HSU := Lib.hid hsu
  have HL22 := Lib.hid hl2
  have H8 := Lib.hid h8
  have HSP := Lib.hid hsp
  have IH := Lib.hid ih
  have HKW := Lib.hid hkw
  have HTX : Hid ((joinC (Sh.items 7 na su)).length ≤ 6 * (capT d + 10)) := by
    have := joinC_len (capT d + 9) (Sh.items 7 na su) (items_le 7 (capT d) su na (fun x hx => txt_len d x (List.all_eq_true.1 hsp x hx)) h8)
    exact Nat.le_trans this (Nat.mul_le_mul_right _ (by rw [items_len]; omega))
  clear hna hsu hl2 h8 hsp ih
  clear hb ho hkw'
  go_enter Tryd.func97, Tryd.ntmps97
  go_wp2_with (at_builtin; go_must (refine wpList_strK _ rfl (.tmp 10) (.tmp 14) rfl w0.heap.size (.slice p n m) l ⟨kw.toArray⟩ rfl HO.out rfl (len_ok (by omega) (by have := HS.out; show kw.toArray.size ≤ _; simp; omega)) HB.out.size ?_))
  intro v' w1 hv' hb1 hk1
  obtain ⟨p', n', m', rfl⟩ := hv'.slice
  have HP1 : Hid (OwnB w1 w0.heap.size (.slice p' n' m') (l ++ kw)) := by show OwnB _ _ _ _; simpa using hv'
  have HB1 := Lib.hid (hb1 _ _ HB.out (Nat.le_refl _))
  have HX1 := Lib.hid (hk1 _ _ HX.out (fun cur h => by cases h))
  have HZ1 := Lib.hid (Nat.le_trans HA.out.size (hb1 0 _ (Below.refl _ _) (Nat.zero_le _)).size)
  have HK1 := Lib.hid ((Kept.below HA.out).trans hk1)
  clear hv' hb1 hk1 h1 h0
  obtain ⟨a0, a1, a2, a3, _, _, _, _, az⟩ := blk4 HX1.out
  go_wp2_with fail
  refine (kindOf_rec _ _ _ _ _ _ _ _ _ _).mono ?_
  rintro e w2 ⟨rfl, hb2⟩
  have HP2 := Lib.hid (own_block HP1.out fun g hg => hb2.block g (blkOf_own HP1.out g hg).2)
  have HB2 := Lib.hid (HB1.out.trans (hb2.mono HB1.out.size))
  have HZ2 := Lib.hid (Nat.le_trans HZ1.out hb2.size)
  have HK2 := Lib.hid (HK1.out.trans (Kept.below hb2))
  clear hb2 a0 a1 a2 a3 az
  go_wp2_with fail
  obtain ⟨L2, hL2⟩ : ∃ L2, L2 = l ++ kw := ⟨_, rfl⟩
  have HP2' := HP2.out
  rw [← hL2] at HP2'
  have HL2 := Lib.hid hL2
  have HM2 : Hid (L2.length ≤ l.length + 5) := by show _ ≤ _; rw [hL2, List.length_append]; have := HS.out; omega
  have HP3 := Lib.hid (own_block HP2' fun g hg => (below_alloc w2 (.cells #[.int .i64 7, .slice p1 n1 m1, .slice p2 na.length m2, .slice p3 su.length m3] 140)).block g (blkOf_own HP2' g hg).2)
  have HB3 := Lib.hid (HB2.out.alloc HB2.out.size (.cells #[.int .i64 7, .slice p1 n1 m1, .slice p2 na.length m2, .slice p3 su.length m3] 140))
  have HZ3 := Lib.hid (Nat.le_trans HZ2.out (below_alloc w2 (.cells #[.int .i64 7, .slice p1 n1 m1, .slice p2 na.length m2, .slice p3 su.length m3] 140)).size)
  have HK3 := Lib.hid (HK2.out.trans (Kept.below (below_alloc w2 (.cells #[.int .i64 7, .slice p1 n1 m1, .slice p2 na.length m2, .slice p3 su.length m3] 140))))
  have HX3 := Lib.hid (Go.Deep.blk_alloc_new w2 (.cells #[.int .i64 7, .slice p1 n1 m1, .slice p2 na.length m2, .slice p3 su.length m3] 140))
  obtain ⟨w3, hw3⟩ : ∃ w3, w3 = w2.alloc (.cells #[.int .i64 7, .slice p1 n1 m1, .slice p2 na.length m2, .slice p3 su.length m3] 140) := ⟨_, rfl⟩
  rw [← hw3] at HP3 HB3 HZ3 HK3 HX3 ⊢
  clear hw3 hL2 HP2'
  obtain ⟨x0, x1, x2, x3, _, _, _, _, xz⟩ := blk4 HX3.out
  go_region_law (first
    | (go_simp; go_at_call 115; refine (appFields_any KwAt d hd5 IH.out w0 _ _ _ _ _ _ _ _ _ _ na su HNA.out HSU.out HL22.out h6 H8.out HSP.out HB5.out HP5.out (by have := HM2.out; rw [List.length_append]; simp; omega) HKW.out).mono ?_; rintro e w6 ⟨p6, n6, m6, rfl, hp6, hb6, hz6, hk6⟩; have HP6 := Lib.hid hp6; have HB6 := Lib.hid hb6; have HZ6 := Lib.hid (Nat.le_trans HZ5.out hz6); have HK6 := Lib.hid (HK5.out.trans hk6); clear hp6 hb6 hz6 hk6)
    | (refine step_byte w3 rfl _ _ rfl w0.heap.size (.slice p' n' m') L2 40 40 rfl HP3.out rfl rfl (by have := HM2.out; omega) HB3.out.size ?_; intro v5 w5 hv5 hb5 hk5; obtain ⟨p5, n5, m5, rfl⟩ := hv5.slice; have HP5 := Lib.hid hv5; have HB5 := Lib.hid (hb5 _ _ HB3.out (Nat.le_refl _)); have HZ5 := Lib.hid (Nat.le_trans HZ3.out (hb5 0 w3 (Below.refl _ _) (Nat.zero_le _)).size); have HK5 := Lib.hid (HK3.out.trans hk5); obtain ⟨_, _, _, _, _, _, _, _, _⟩ := blk4 (hk5 _ _ HX3.out (fun cur h => by cases h)); clear hv5 hb5 hk5))
  all_goals
    clear x0 x1 x2 x3 xz
    obtain ⟨L6, hL6⟩ : ∃ L6, L6 = (L2 ++ [40]) ++ joinC (Sh.items 7 na su) := ⟨_, rfl⟩
    have HP6' := HP6.out
    rw [← hL6] at HP6'
    have HP7 := Lib.hid HP6'
    have HL6 := Lib.hid hL6
    have HM6 : Hid (L6.length < 70368744177664) := by
      show _ < _
      have h1 := HM2.out
      have h2 := HTX.out
      rw [hL6, List.length_append, List.length_append]
      simp only [List.length_cons, List.length_nil]
      omega
    clear hL6 HP6'
    go_wp2_with (at_builtin; go_must (refine wpList_byteK w6 rfl (.tmp 58) (.tmp 59) rfl w0.heap.size (.slice p6 n6 m6) L6 41 41 rfl HP7.out rfl rfl HM6.out HB6.out.size ?_))
    intro v7 w7 hv7 hb7 hk7
    obtain ⟨p7, n7, m7, rfl⟩ := hv7.slice
    have HP8 := Lib.hid hv7
    have HB7 := Lib.hid (hb7 _ _ HB6.out (Nat.le_refl _))
    have HZ7 := Lib.hid (Nat.le_trans HZ6.out (hb7 0 w6 (Below.refl _ _) (Nat.zero_le _)).size)
    have HK7 := Lib.hid (HK6.out.trans hk7)
    clear hv7 hb7 hk7
    go_wp2_with fail
    go_ret
    have h8 := HP8.out
    rw [HL6.out, HL2.out] at h8
    exact ⟨p7, n7, m7, rfl, by simpa using h8, HB7.out, HZ7.out, HK7.out⟩
end Go.Proofs.YtmdlciomhkielaaDoor
namespace Go.Proofs.YtmdlciomhkielaaDoor
open Go.RowKit

/-- impl.appendShape. -/
theorem ap_any (d : Nat) (hd : d ≤ 5) : ApAt KwAt d := by
  induction d with
  | zero =>
    intro t w0 w v u l hp
    simp [partOk] at hp
  | succ d ih =>
    intro t w0 w v u l hp h hb ho hl hkw
    have ih' := ih (by omega)
    cases t with | mk k sy na su =>
    obtain ⟨p1, m1, p2, m2, p3, m3, rfl, _, h1, h2, h3⟩ := h.open
    simp only [partOk, Bool.and_eq_true] at hp
    simp only [capT] at hl
    rcases sound_cases hp.1 with ⟨hk, rfl, rfl, hn⟩ | ⟨rfl, h0, h6, hw, rfl, hn⟩ | ⟨hk, rfl, rfl, hn⟩ | ⟨rfl, rfl, h6, hw, hn⟩
    · rw [txt_bare (by omega)]
      rcases hk with rfl | rfl | rfl
      · exact app_flag w0 w v l _ _ _ _ _ _ _ _ _ hb ho (by omega) hkw
      · exact app_num w0 w v l _ _ _ _ _ _ _ _ _ hb ho (by omega) hkw
      · exact app_text w0 w v l _ _ _ _ _ _ _ _ _ hb ho (by omega) hkw
    · obtain rfl := List.eq_nil_of_length_eq_zero hn
      have e : (Sh.mk 4 sy [] []).txt = kwB 4 ++ 40 :: (joinC (sy.map (·.data.toList)) ++ [41]) := by simp [Sh.txt, Sh.items]
      rw [e]
      exact app_pick w0 w v l _ _ _ _ _ _ _ _ _ hb ho (by omega) sy h1 (words_size hw) h6 hkw
    · obtain ⟨x, rfl⟩ := List.length_eq_one_iff.1 hn
      have hx : partOk d x = true := by simpa using hp.2
      rcases hk with rfl | rfl
      · have e : (Sh.mk 5 [] [] [x]).txt = kwB 5 ++ 40 :: (x.txt ++ [41]) := by simp [Sh.txt, Sh.items, joinC]
        rw [e]
        exact app_maybe w0 w v l _ _ _ _ _ _ _ _ _ hb ho (by omega) d ih' x [x] rfl rfl h3 hx (by omega) hkw
      · have e : (Sh.mk 6 [] [] [x]).txt = kwB 6 ++ 40 :: (x.txt ++ [41]) := by simp [Sh.txt, Sh.items, joinC]
        rw [e]
        exact app_lists w0 w v l _ _ _ _ _ _ _ _ _ hb ho (by omega) d ih' x [x] rfl rfl h3 hx (by omega) hkw
    · have e : (Sh.mk 7 [] na su).txt = kwB 7 ++ 40 :: (joinC (Sh.items 7 na su) ++ [41]) := by simp [Sh.txt]
      rw [e]
      exact app_rec w0 w v l _ _ _ _ _ _ _ na su hb ho (by omega) d (by omega) ih' h2 h3 hn h6 (words_size hw) hp.2 (by omega) hkw

/-- What ShapeText tells. -/
def textOf (t : Sh) : List UInt8 := if rightB t = true then t.txt else []
end Go.Proofs.YtmdlciomhkielaaDoor
