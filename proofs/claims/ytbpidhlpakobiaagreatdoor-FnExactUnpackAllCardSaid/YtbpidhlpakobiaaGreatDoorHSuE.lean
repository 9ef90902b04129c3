/- Walks: spec.l04Unpack at any right shape; spec.Unpack. · Walks: spec.Unpack. -/
import Derived.Test.YtbpidhlpakobiaaGreatDoorHSuC
import Derived.Test.YtbpidhlpakobiaaGreatDoorHSuD
import Derived.Test.YtbpidhlpakobiaaGreatDoorHUnD
namespace Go.Proofs.YtbpidhlpakobiaaGreatDoor
open Go.RowKit

theorem su_any (d : Nat) : SuAt d := by
  induction d with
  | zero => intro s bs p v w h; simp [partOk] at h
  | succ d ih =>
    intro s bs p v w hp h8 h0 h1 hs
    cases s with | mk k sy na su =>
    obtain ⟨p1, m1, p2, m2, p3, m3, rfl, _, g1, g2, g3⟩ := hs.open
    have hm3 : m3 ≤ 9223372036854775807 := by
      obtain ⟨_, _, e, _, hc, _⟩ := g3
      simp only [Value.slice.injEq] at e
      obtain ⟨_, _, rfl⟩ := e
      exact hc
    simp only [partOk, Bool.and_eq_true] at hp
    have hall := List.all_eq_true.1 hp.2
    rcases sound_cases hp.1 with ⟨hk, rfl, rfl, hn⟩ | ⟨rfl, hs0, hs6, hsw, rfl, hn⟩ | ⟨hk, rfl, rfl, hn⟩ | ⟨rfl, rfl, h6, _, hn⟩
    · obtain rfl := List.eq_nil_of_length_eq_zero hn
      rcases hk with rfl | rfl | rfl
      · have e : unB bs (.mk 1 [] [] []) p = (if (readN bs p 1).2.2 ≠ 0 then (zeroVa, 0, (readN bs p 1).2.2) else (.mk 1 (readN bs p 1).1 ⟨#[]⟩ [], (readN bs p 1).2.1, 0)) := by unfold unB; rw [if_pos rfl]
        rw [e]
        exact su_num1 d ih p1 p2 p3 _ _ m1 m2 m3 hm3 (by simp) bs p w h8 h0 h1
      · have e : unB bs (.mk 2 [] [] []) p = (if (readN bs p 1000000).2.2 ≠ 0 then (zeroVa, 0, (readN bs p 1000000).2.2) else (.mk 2 (readN bs p 1000000).1 ⟨#[]⟩ [], (readN bs p 1000000).2.1, 0)) := by unfold unB; rw [if_neg (by decide), if_pos rfl]
        rw [e]
        exact su_num2 d ih p1 p2 p3 _ _ m1 m2 m3 hm3 (by simp) bs p w h8 h0 h1
      · have e : unB bs (.mk 3 [] [] []) p = (if (readP bs p).2.2 ≠ 0 then (zeroVa, 0, (readP bs p).2.2) else (.mk 3 0 (readP bs p).1 [], (readP bs p).2.1, 0)) := by unfold unB; rw [if_neg (by decide), if_neg (by decide), if_pos rfl]
        rw [e]
        exact su_text p1 p2 p3 _ _ _ m1 m2 m3 bs p w h8 h0 h1
    · obtain rfl := List.eq_nil_of_length_eq_zero hn
      have e : unB bs (.mk 4 sy [] []) p = (if (readN bs p (sy.length - 1)).2.2 ≠ 0 then (zeroVa, 0, (readN bs p (sy.length - 1)).2.2) else (.mk 4 0 (sy.getD (readN bs p (sy.length - 1)).1.toNat ⟨#[]⟩) [], (readN bs p (sy.length - 1)).2.1, 0)) := by unfold unB; rw [if_neg (by decide), if_neg (by decide), if_neg (by decide), if_pos rfl]
      rw [e]
      exact su_pick d ih sy hs0 (words_size hsw) p1 p2 p3 _ m1 m2 m3 hm3 hs6 bs p w h8 h0 h1 g1
    · obtain ⟨y, rfl⟩ := List.length_eq_one_iff.1 hn
      rcases hk with rfl | rfl
      · have e : unB bs (.mk 5 [] [] [y]) p = (if (readN bs p 1).2.2 ≠ 0 then (zeroVa, 0, (readN bs p 1).2.2) else itemsU 5 (seqU (List.replicate (readN bs p 1).1.toNat (unB bs y)) (readN bs p 1).2.1)) := by
          unfold unB; rw [if_neg (by decide), if_neg (by decide), if_neg (by decide), if_neg (by decide), if_pos rfl, unOne_cons]
        rw [e]
        exact su_items5 d ih y (hall y (by simp)) p1 p2 p3 _ _ m1 m2 m3 (by simp) bs p w h8 h0 h1 g3
      · have e : unB bs (.mk 6 [] [] [y]) p = (if (readN bs p 6).2.2 ≠ 0 then (zeroVa, 0, (readN bs p 6).2.2) else itemsU 6 (seqU (List.replicate (readN bs p 6).1.toNat (unB bs y)) (readN bs p 6).2.1)) := by
          unfold unB; rw [if_neg (by decide), if_neg (by decide), if_neg (by decide), if_neg (by decide), if_neg (by decide), if_pos rfl, unOne_cons]
        rw [e]
        exact su_items6 d ih y (hall y (by simp)) p1 p2 p3 _ _ m1 m2 m3 (by simp) bs p w h8 h0 h1 g3
    · have e : unB bs (.mk 7 [] na su) p = itemsU 7 (seqU (su.map (unB bs)) p) := by
        unfold unB; rw [if_neg (by decide), if_neg (by decide), if_neg (by decide), if_neg (by decide), if_neg (by decide), if_neg (by decide), unAll_map]
      rw [e]
      exact su_rec d ih su hall (by omega) p1 p2 p3 _ _ m1 m2 m3 bs p w h8 h0 h1 g3
end Go.Proofs.YtbpidhlpakobiaaGreatDoor
namespace Go.Proofs.YtbpidhlpakobiaaGreatDoor
open Go.RowKit

set_option maxRecDepth 100000 in
set_option maxHeartbeats 2000000 in
theorem specUnpack_is (s : Sh) (bs : ByteArray) (p : Int) (r : UnR) (hr : unpackR s bs p = r) (u : Value) (w : World) (hz : bs.size ≤ maxLen) (h : IsSh w s u) :
    Calls Tryz.prog 27 #[u, .string bs, .int .i64 p] w (UnpPost w r) := by
  have HH := Lib.hid h
  obtain ⟨p1, n1, m1, p2, n2, m2, p3, n3, m3, rfl⟩ := h.agg
  have hX := two_new w (.cells #[.int .i64 s.kd, .slice p1 n1 m1, .slice p2 n2 m2, .slice p3 n3 m3] 26) (.cells #[.int .i64 0, .int .i64 0, .string ⟨#[]⟩, .slice none 0 0, .int .i64 0, .int .i64 0] 50)
  have hbw := (below_alloc w (.cells #[.int .i64 s.kd, .slice p1 n1 m1, .slice p2 n2 m2, .slice p3 n3 m3] 26)).alloc (by simp) (.cells #[.int .i64 0, .int .i64 0, .string ⟨#[]⟩, .slice none 0 0, .int .i64 0, .int .i64 0] 50)
  obtain ⟨W, hW⟩ : ∃ W, W = (w.alloc (.cells #[.int .i64 s.kd, .slice p1 n1 m1, .slice p2 n2 m2, .slice p3 n3 m3] 26)).alloc (.cells #[.int .i64 0, .int .i64 0, .string ⟨#[]⟩, .slice none 0 0, .int .i64 0, .int .i64 0] 50) := ⟨_, rfl⟩
  rw [← hW] at hX hbw
  have S1 := Lib.hid hX.1
  have S2 := Lib.hid hX.2
  have BW := Lib.hid hbw
  have HW := Lib.hid hW
  obtain ⟨a0, a1, a2, a3, _, _, _, _, az⟩ := blk4 S1.out
  obtain ⟨_, _, _, _, _, _, _, _, _, _, _, _, bz⟩ := blk6 S2.out
  clear h hX hbw hW
  unfold maxLen at hz
  by_cases h8 : 8000 < bs.size
  · have HR : Hid ((zeroVa, (0 : Int), (2 : Int)) = r) := by show _ = _; rw [← hr]; unfold unpackR; rw [if_pos h8]
    have h8i : (8000 : Int) < bs.size := by omega
    clear hr h8
    go_enter Tryz.func27, Tryz.ntmps27
    go_wp2_with fail
    rw [← HW.out]
    refine (ill_any 2 _).mono ?_
    rintro e w4 ⟨rfl, hb4⟩
    have B4 := Lib.hid (BW.out.trans (hb4.mono BW.out.size))
    have D2 := blk_below S2.out hb4 bz
    obtain ⟨x0, x1, x2, x3, x4, x5, v0, v1, v2, v3, v4, v5, xz⟩ := blk6 D2
    clear hb4 D2
    go_wp2_with fail
    refine bodyPost_ret (v := .agg #[.int .i64 0, .int .i64 0, .string ⟨#[]⟩, .slice none 0 0, .int .i64 0, .int .i64 2]) (by simp [results, Tryz.results27, go_sem, x0, x1, x2, x3, x4, x5]) rfl ?_
    rw [← HR.out]
    exact unp_end B4.out (own_zero _ _) (by simp) List.nodup_nil
  · have h8i : ¬ (8000 : Int) < bs.size := by omega
    have HZ : Hid (bs.size ≤ 8000) := by show _ ≤ _; omega
    cases hrb : rightB s
    · have HR : Hid ((zeroVa, (0 : Int), (1 : Int)) = r) := by show _ = _; rw [← hr]; unfold unpackR; rw [if_neg h8, hrb, if_neg (by simp)]
      have HRB := Lib.hid hrb
      clear hr hrb h8
      go_enter Tryz.func27, Tryz.ntmps27
      go_wp2_with fail
      rw [← HW.out]
      refine (specRight_is s _ HRB.out _ _ (IsSh.keep (Keeps.of_below BW.out) _ _ HH.out)).mono ?_
      rintro e w1 ⟨rfl, hb1⟩
      have B1 := Lib.hid (BW.out.trans (hb1.mono BW.out.size))
      have T1 := Lib.hid (blk_below S1.out hb1 az)
      have T2 := Lib.hid (blk_below S2.out hb1 bz)
      clear hb1 a0 a1 a2 a3 az bz
      obtain ⟨a0, a1, a2, a3, _, _, _, _, az⟩ := blk4 T1.out
      obtain ⟨_, _, _, _, _, _, _, _, _, _, _, _, bz⟩ := blk6 T2.out
      go_wp2_with fail
      refine (ill_any 1 _).mono ?_
      rintro e w4 ⟨rfl, hb4⟩
      have B4 := Lib.hid (B1.out.trans (hb4.mono B1.out.size))
      have D2 := blk_below T2.out hb4 bz
      obtain ⟨x0, x1, x2, x3, x4, x5, v0, v1, v2, v3, v4, v5, xz⟩ := blk6 D2
      clear hb4 D2
      go_wp2_with fail
      refine bodyPost_ret (v := .agg #[.int .i64 0, .int .i64 0, .string ⟨#[]⟩, .slice none 0 0, .int .i64 0, .int .i64 1]) (by simp [results, Tryz.results27, go_sem, x0, x1, x2, x3, x4, x5]) rfl ?_
      rw [← HR.out]
      exact unp_end B4.out (own_zero _ _) (by simp) List.nodup_nil
    · have HRB := Lib.hid hrb
      by_cases hp0 : 0 ≤ p
      · by_cases hp1 : p ≤ (bs.size : Int)
        · have HR : Hid (unB bs s p = r) := by show _ = _; rw [← hr]; unfold unpackR; rw [if_neg h8, if_pos ⟨hrb, hp0, hp1⟩]
          have HR5 : Hid (partOk 5 s = true) := by show _ = _; exact hrb
          clear hr hrb h8
          go_enter Tryz.func27, Tryz.ntmps27
          go_wp2_with fail
          rw [← HW.out]
          refine (specRight_is s _ HRB.out _ _ (IsSh.keep (Keeps.of_below BW.out) _ _ HH.out)).mono ?_
          rintro e w1 ⟨rfl, hb1⟩
          have B1 := Lib.hid (BW.out.trans (hb1.mono BW.out.size))
          have T1 := Lib.hid (blk_below S1.out hb1 az)
          have T2 := Lib.hid (blk_below S2.out hb1 bz)
          clear hb1 a0 a1 a2 a3 az bz
          obtain ⟨a0, a1, a2, a3, _, _, _, _, az⟩ := blk4 T1.out
          obtain ⟨_, _, _, _, _, _, _, _, _, _, _, _, bz⟩ := blk6 T2.out
          go_wp2_with fail
          refine (l02Is_any p 0 bs.size _).mono ?_
          rintro e w' ⟨rfl, rfl⟩
          rw [decide_eq_true hp0, decide_eq_true hp1]
          go_wp2_with fail
          refine (su_any 5 s bs p _ w1 HR5.out HZ.out hp0 hp1 (IsSh.keep (Keeps.of_below B1.out) _ _ HH.out)).mono ?_
          rw [HR.out]
          rintro e w5 ⟨k5, n5, t5, q5, l5, m5, F5, rfl, ho5, hn5, hb5⟩
          have B5 := Lib.hid (B1.out.trans (hb5.mono B1.out.size))
          have D2 := blk_below T2.out hb5 bz
          have HO5 := Lib.hid ho5
          have HZ1 : Hid (w.heap.size + 1 < w1.heap.size) := bz
          obtain ⟨x0, x1, x2, x3, x4, x5, v0, v1, v2, v3, v4, v5, xz⟩ := blk6 D2
          clear hb5 D2 ho5
          go_wp2_with fail
          refine bodyPost_ret (v := .agg #[.int .i64 k5, .int .i64 n5, .string t5, .slice q5 l5 m5, .int .i64 r.2.1, .int .i64 r.2.2]) (by simp [results, Tryz.results27, go_sem, x0, x1, x2, x3, x4, x5]) rfl ?_
          exact unp_end B5.out (HO5.out.move' (by have := HZ1.out; omega)) (fun b hb => by have := (OwnVa.blocks _ _ _ HO5.out b hb).1; have := HZ1.out; omega) hn5
        · have HR : Hid ((zeroVa, (0 : Int), (1 : Int)) = r) := by show _ = _; rw [← hr]; unfold unpackR; rw [if_neg h8, if_neg (fun h => hp1 h.2.2)]
          clear hr hrb h8
          go_enter Tryz.func27, Tryz.ntmps27
          go_wp2_with fail
          rw [← HW.out]
          refine (specRight_is s _ HRB.out _ _ (IsSh.keep (Keeps.of_below BW.out) _ _ HH.out)).mono ?_
          rintro e w1 ⟨rfl, hb1⟩
          have B1 := Lib.hid (BW.out.trans (hb1.mono BW.out.size))
          have T1 := Lib.hid (blk_below S1.out hb1 az)
          have T2 := Lib.hid (blk_below S2.out hb1 bz)
          clear hb1 a0 a1 a2 a3 az bz
          obtain ⟨a0, a1, a2, a3, _, _, _, _, az⟩ := blk4 T1.out
          obtain ⟨_, _, _, _, _, _, _, _, _, _, _, _, bz⟩ := blk6 T2.out
          go_wp2_with fail
          refine (l02Is_any p 0 bs.size _).mono ?_
          rintro e w' ⟨rfl, rfl⟩
          rw [decide_eq_true hp0, decide_eq_false (p := p ≤ (bs.size : Int)) (by omega)]
          go_wp2_with fail
          refine (ill_any 1 _).mono ?_
          rintro e w4 ⟨rfl, hb4⟩
          have B4 := Lib.hid (B1.out.trans (hb4.mono B1.out.size))
          have D2 := blk_below T2.out hb4 bz
          obtain ⟨x0, x1, x2, x3, x4, x5, v0, v1, v2, v3, v4, v5, xz⟩ := blk6 D2
          clear hb4 D2
          go_wp2_with fail
          refine bodyPost_ret (v := .agg #[.int .i64 0, .int .i64 0, .string ⟨#[]⟩, .slice none 0 0, .int .i64 0, .int .i64 1]) (by simp [results, Tryz.results27, go_sem, x0, x1, x2, x3, x4, x5]) rfl ?_
          rw [← HR.out]
          exact unp_end B4.out (own_zero _ _) (by simp) List.nodup_nil
      · have HR : Hid ((zeroVa, (0 : Int), (1 : Int)) = r) := by show _ = _; rw [← hr]; unfold unpackR; rw [if_neg h8, if_neg (fun h => hp0 h.2.1)]
        clear hr hrb h8
        go_enter Tryz.func27, Tryz.ntmps27
        go_wp2_with fail
        rw [← HW.out]
        refine (specRight_is s _ HRB.out _ _ (IsSh.keep (Keeps.of_below BW.out) _ _ HH.out)).mono ?_
        rintro e w1 ⟨rfl, hb1⟩
        have B1 := Lib.hid (BW.out.trans (hb1.mono BW.out.size))
        have T1 := Lib.hid (blk_below S1.out hb1 az)
        have T2 := Lib.hid (blk_below S2.out hb1 bz)
        clear hb1 a0 a1 a2 a3 az bz
        obtain ⟨a0, a1, a2, a3, _, _, _, _, az⟩ := blk4 T1.out
        obtain ⟨_, _, _, _, _, _, _, _, _, _, _, _, bz⟩ := blk6 T2.out
        go_wp2_with fail
        refine (l02Is_any p 0 bs.size _).mono ?_
        rintro e w' ⟨rfl, rfl⟩
        rw [decide_eq_false (p := (0 : Int) ≤ p) (by omega)]
        go_wp2_with fail
        refine (ill_any 1 _).mono ?_
        rintro e w4 ⟨rfl, hb4⟩
        have B4 := Lib.hid (B1.out.trans (hb4.mono B1.out.size))
        have D2 := blk_below T2.out hb4 bz
        obtain ⟨x0, x1, x2, x3, x4, x5, v0, v1, v2, v3, v4, v5, xz⟩ := blk6 D2
        clear hb4 D2
        go_wp2_with fail
        refine bodyPost_ret (v := .agg #[.int .i64 0, .int .i64 0, .string ⟨#[]⟩, .slice none 0 0, .int .i64 0, .int .i64 1]) (by simp [results, Tryz.results27, go_sem, x0, x1, x2, x3, x4, x5]) rfl ?_
        rw [← HR.out]
        exact unp_end B4.out (own_zero _ _) (by simp) List.nodup_nil
end Go.Proofs.YtbpidhlpakobiaaGreatDoor
