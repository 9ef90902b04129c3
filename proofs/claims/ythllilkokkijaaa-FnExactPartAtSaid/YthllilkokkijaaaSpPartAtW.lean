/- Walks: spec.PartAt. -/
import Derived.Test.YthllilkokkijaaaImPartW
import Derived.Test.YthllilkokkijaaaSpPathW
import Derived.Test.YthllilkokkijaaaCopySpW
namespace Go.Proofs.Ythllilkokkijaaa
open Go.RowKit

set_option maxRecDepth 100000 in
set_option maxHeartbeats 2000000 in
theorem spPartAt_is (t : Sh) (p : List ByteArray) (r : Sh × Int) (hr : partR t p = r) (v vp : Value) (w : World) (h : IsSh w t v) (hp : IsStrs w vp p) :
    Calls Try.prog 8 #[v, vp] w (SoPost r w) := by
  have HH := Lib.hid h
  have HP := Lib.hid hp
  obtain ⟨p1, n1, m1, p2, n2, m2, p3, n3, m3, rfl⟩ := h.agg
  obtain ⟨_, _, a, cap, rfl, _, _, _⟩ := hp
  obtain ⟨W, hW⟩ : ∃ W, W = (w.alloc (.cells #[.int .i64 t.kd, .slice p1 n1 m1, .slice p2 n2 m2, .slice p3 n3 m3] 30)).alloc (.cells #[.int .i64 0, .slice none 0 0, .slice none 0 0, .slice none 0 0, .int .i64 0] 32) := ⟨_, rfl⟩
  obtain ⟨x0, x1⟩ := two_new w (.cells #[.int .i64 t.kd, .slice p1 n1 m1, .slice p2 n2 m2, .slice p3 n3 m3] 30) (.cells #[.int .i64 0, .slice none 0 0, .slice none 0 0, .slice none 0 0, .int .i64 0] 32)
  have hb : Below w.heap.size w W := by rw [hW]; exact (below_alloc w _).alloc (by simp) _
  have hz : W.heap.size = w.heap.size + 1 + 1 := by rw [hW]; simp
  rw [← hW] at x0 x1
  have X0 := Lib.hid x0
  have X1 := Lib.hid x1
  have HB := Lib.hid hb
  have HZ := Lib.hid hz
  have HW := Lib.hid hW
  clear h x0 x1 hb hz hW
  by_cases hl : 400 < p.length
  · have hl' : (400 : Int) < p.length := by omega
    obtain rfl : (zsh, 2) = r := by rw [← hr]; exact (if_pos hl).symm
    clear hr hl
    go_enter Try.func8, Try.ntmps8
    go_wp2_with fail
    refine bodyPost_ret (v := .agg #[.int .i64 0, .slice none 0 0, .slice none 0 0, .slice none 0 0, .int .i64 2]) (by simp [results, Try.results8, go_sem, *]) rfl (so_code 2 ?_)
    exact (below_alloc w _).alloc (by simp) _
  · have hl' : (p.length : Int) ≤ 400 := by omega
    have hr1 : (if (rightB t && pathOk p) = false then ((zsh, 1) : Sh × Int) else match partP p t with | none => (zsh, 6) | some u => (u, 0)) = r := by rw [← hr]; exact (if_neg hl).symm
    clear hr hl
    cases hs : rightB t
    · have HS := Lib.hid hs
      obtain rfl : (zsh, 1) = r := by rw [← hr1, hs]; rfl
      clear hr1 hs
      go_enter Try.func8, Try.ntmps8
      go_wp2_with fail
      rw [← HW.out]
      refine (specRight_is t _ HS.out _ W (IsSh.keep (Keeps.of_below HB.out) _ _ HH.out)).mono ?_
      rintro e w1 ⟨rfl, hb1⟩
      have B1 := Lib.hid (HB.out.trans (hb1.mono HB.out.size))
      obtain ⟨r0, r1, r2, r3, r4, e0, e1, e2, e3, e4, rz⟩ := blk5s (blk_below X1.out hb1 (by have := HZ.out; omega))
      clear hb1
      go_wp2_with fail
      refine bodyPost_ret (v := .agg #[.int .i64 0, .slice none 0 0, .slice none 0 0, .slice none 0 0, .int .i64 1]) (by simp [results, Try.results8, go_sem, *]) rfl (so_code 1 ?_)
      exact (putS_below B1.out (by omega) _ _ _ _).setCell (p := ⟨w.heap.size + 1, 4, none⟩) (by show _ ≤ w.heap.size + 1; omega) _
    · have HS := Lib.hid hs
      cases hq : pathOk p
      · have HQ := Lib.hid hq
        obtain rfl : (zsh, 1) = r := by rw [← hr1, hs, hq]; rfl
        clear hr1 hs hq
        go_enter Try.func8, Try.ntmps8
        go_wp2_with fail
        rw [← HW.out]
        refine (specRight_is t _ HS.out _ W (IsSh.keep (Keeps.of_below HB.out) _ _ HH.out)).mono ?_
        rintro e w1 ⟨rfl, hb1⟩
        have B1 := Lib.hid (HB.out.trans (hb1.mono HB.out.size))
        obtain ⟨r0, r1, r2, r3, r4, e0, e1, e2, e3, e4, rz⟩ := blk5s (blk_below X1.out hb1 (by have := HZ.out; omega))
        clear hb1
        go_wp2_with fail
        refine (specPath_is _ p _ HQ.out w1 (HP.out.keep (Keeps.of_below B1.out))).mono ?_
        rintro e w2 ⟨rfl, rfl⟩
        go_wp2_with fail
        refine bodyPost_ret (v := .agg #[.int .i64 0, .slice none 0 0, .slice none 0 0, .slice none 0 0, .int .i64 1]) (by simp [results, Try.results8, go_sem, *]) rfl (so_code 1 ?_)
        exact (putS_below B1.out (by omega) _ _ _ _).setCell (p := ⟨w.heap.size + 1, 4, none⟩) (by show _ ≤ w.heap.size + 1; omega) _
      · have HQ := Lib.hid hq
        have hr2 : (match partP p t with | none => ((zsh, 6) : Sh × Int) | some u => (u, 0)) = r := by rw [← hr1, hs, hq]; rfl
        have hd : partOk 5 t = true := hs
        have HD := Lib.hid hd
        clear hr1 hs hq hd
        go_enter Try.func8, Try.ntmps8
        go_wp2_with fail
        rw [← HW.out]
        refine (specRight_is t _ HS.out _ W (IsSh.keep (Keeps.of_below HB.out) _ _ HH.out)).mono ?_
        rintro e w1 ⟨rfl, hb1⟩
        have B1 := Lib.hid (HB.out.trans (hb1.mono HB.out.size))
        obtain ⟨a0, a1, a2, a3, _, _, _, _, az⟩ := blk4 (blk_below X0.out hb1 (by have := HZ.out; omega))
        have Y1 := Lib.hid (blk_below X1.out hb1 (by have := HZ.out; omega))
        clear hb1
        go_wp2_with fail
        refine (specPath_is _ p _ HQ.out w1 (HP.out.keep (Keeps.of_below B1.out))).mono ?_
        rintro e w2 ⟨rfl, rfl⟩
        go_wp2_with fail
        refine (specPart_any t p 5 _ _ w1 HD.out (IsSh.keep (Keeps.of_below B1.out) _ _ HH.out) (HP.out.keep (Keeps.of_below B1.out))).mono ?_
        obtain ⟨rp, hrp⟩ : ∃ rp, partP p t = rp := ⟨_, rfl⟩
        rw [hrp] at hr2 ⊢
        rintro e w3 ⟨k, q1, i1, j1, q2, i2, j2, q3, i3, j3, rfl, hpr, hb3⟩
        have B3 := Lib.hid (B1.out.trans (hb3.mono B1.out.size))
        have Y3 := Lib.hid (blk_below Y1.out hb3 (Array.getElem?_eq_some_iff.1 Y1.out).1)
        have HZ3 := Lib.hid (Array.getElem?_eq_some_iff.1 Y3.out).1
        have YA := Lib.hid (blk_below Y3.out (below_alloc w3 (.cells #[.int .i64 k, .slice q1 i1 j1, .slice q2 i2 j2, .slice q3 i3 j3] 30)) HZ3.out)
        have BA := Lib.hid (B3.out.alloc B3.out.size (.cells #[.int .i64 k, .slice q1 i1 j1, .slice q2 i2 j2, .slice q3 i3 j3] 30))
        cases rp with
        | none =>
          obtain rfl : (zsh, 6) = r := hr2
          obtain ⟨r0, r1, r2, r3, r4, e0, e1, e2, e3, e4, rz⟩ := blk5s YA.out
          clear hpr hb3 hrp
          go_wp2_with fail
          refine bodyPost_ret (v := .agg #[.int .i64 0, .slice none 0 0, .slice none 0 0, .slice none 0 0, .int .i64 6]) (by simp [results, Try.results8, go_sem, *]) rfl (so_code 6 ?_)
          exact (putS_below BA.out (by omega) _ _ _ _).setCell (p := ⟨w.heap.size + 1, 4, none⟩) (by show _ ≤ w.heap.size + 1; omega) _
        | some u =>
          obtain rfl : (u, 0) = r := hr2
          obtain ⟨d', hd', hu⟩ := part_ok p 5 t u HD.out hrp
          have HU := Lib.hid hu
          have G4 := Lib.hid (IsSh.keep (Keeps.of_below (below_alloc w3 (.cells #[.int .i64 k, .slice q1 i1 j1, .slice q2 i2 j2, .slice q3 i3 j3] 30))) _ _ (hpr u rfl))
          clear hpr hb3 hrp hu
          go_wp2_with fail
          refine (cs_any d' u _ _ HU.out G4.out).mono ?_
          rintro e w4 ⟨c0, c1, c2, c3, F, rfl, ho, hn, hb4⟩
          obtain ⟨k1, l1, o1, k2, l2, o2, k3, o3, rfl, rfl, rfl, rfl⟩ := cells3 (OwnSh.is _ _ _ ho)
          have B4 := Lib.hid (BA.out.trans (hb4.mono BA.out.size))
          have HO := Lib.hid ho
          have HN := Lib.hid hn
          have HZA := Lib.hid (Array.getElem?_eq_some_iff.1 YA.out).1
          obtain ⟨r0, r1, r2, r3, r4, e0, e1, e2, e3, e4, rz⟩ := blk5s (blk_below YA.out hb4 HZA.out)
          clear ho hn hb4
          go_wp2_with fail
          refine bodyPost_ret (v := .agg #[.int .i64 u.kd, .slice k1 l1 o1, .slice k2 l2 o2, .slice k3 u.su.length o3, .int .i64 0]) (by simp [results, Try.results8, go_sem, *]) rfl ?_
          exact so_put B4.out (by omega) BA.out.size HO.out HZA.out HN.out
end Go.Proofs.Ythllilkokkijaaa
