/- Walks: spec.Swap. -/
import Derived.Test.YthllilkokkijaaaGSwapQ
import Derived.Test.YthllilkokkijaaaGImPartW
import Derived.Test.YthllilkokkijaaaGSpSwapW
namespace Go.Proofs.Ythllilkokkijaaa
open Go.RowKit

set_option maxRecDepth 100000 in
set_option maxHeartbeats 2000000 in
theorem specSwap_is (t : Sh) (p : List ByteArray) (x : Sh) (r : Sh × Int) (hr : swapA t p x = r) (v vp vx : Value) (w : World) (h : IsSh w t v) (hp : IsStrs w vp p) (hx : IsSh w x vx) :
    Calls Try.prog 19 #[v, vp, vx] w (SoPost r w) := by
  have HH := Lib.hid h
  have HP := Lib.hid hp
  have HX := Lib.hid hx
  obtain ⟨p1, n1, m1, p2, n2, m2, p3, n3, m3, rfl⟩ := h.agg
  obtain ⟨r1, i1, j1, r2, i2, j2, r3, i3, j3, rfl⟩ := hx.agg
  obtain ⟨_, _, a, cap, rfl, _, _, _⟩ := hp
  obtain ⟨W, hW⟩ : ∃ W, W = ((w.alloc (.cells #[.int .i64 t.kd, .slice p1 n1 m1, .slice p2 n2 m2, .slice p3 n3 m3] 30)).alloc (.cells #[.int .i64 x.kd, .slice r1 i1 j1, .slice r2 i2 j2, .slice r3 i3 j3] 30)).alloc (.cells #[.int .i64 0, .slice none 0 0, .slice none 0 0, .slice none 0 0, .int .i64 0] 42) := ⟨_, rfl⟩
  obtain ⟨x0, x1, x2⟩ := three_new w (.cells #[.int .i64 t.kd, .slice p1 n1 m1, .slice p2 n2 m2, .slice p3 n3 m3] 30) (.cells #[.int .i64 x.kd, .slice r1 i1 j1, .slice r2 i2 j2, .slice r3 i3 j3] 30) (.cells #[.int .i64 0, .slice none 0 0, .slice none 0 0, .slice none 0 0, .int .i64 0] 42)
  have hb : Below w.heap.size w W := by rw [hW]; exact ((below_alloc w _).alloc (by simp) _).alloc (by simp; omega) _
  have hz : W.heap.size = w.heap.size + 1 + 1 + 1 := by rw [hW]; simp
  rw [← hW] at x0 x1 x2
  have X0 := Lib.hid x0
  have X1 := Lib.hid x1
  have X2 := Lib.hid x2
  have HB := Lib.hid hb
  have HZ := Lib.hid hz
  have HW := Lib.hid hW
  clear h hx x0 x1 x2 hb hz hW
  by_cases hl : 400 < p.length
  · have hl' : (400 : Int) < p.length := by omega
    obtain rfl : (zsh, 2) = r := by rw [← hr]; exact (if_pos hl).symm
    clear hr hl
    go_enter Try.func19, Try.ntmps19
    go_wp2_with fail
    refine bodyPost_ret (v := .agg #[.int .i64 0, .slice none 0 0, .slice none 0 0, .slice none 0 0, .int .i64 2]) (by simp [results, Try.results19, go_sem, *]) rfl (so_code 2 ?_)
    exact ((below_alloc w _).alloc (by simp) _).alloc (by simp; omega) _
  · have hl' : (p.length : Int) ≤ 400 := by omega
    have hr1 : (if (rightB t && pathOk p && rightB x) = false then ((zsh, 1) : Sh × Int) else match partP p t with | none => (zsh, 6) | some _ => if rightB (swapR p t x) = false then (zsh, 9) else (swapR p t x, 0)) = r := by rw [← hr]; exact (if_neg hl).symm
    clear hr hl
    cases hs : rightB t
    · have HS := Lib.hid hs
      obtain rfl : (zsh, 1) = r := by rw [← hr1, hs]; rfl
      clear hr1 hs
      go_enter Try.func19, Try.ntmps19
      go_wp2_with fail
      rw [← HW.out]
      refine (specRight_is t _ HS.out _ W (IsSh.keep (Keeps.of_below HB.out) _ _ HH.out)).mono ?_
      rintro e w1 ⟨rfl, hb1⟩
      have B1 := Lib.hid (HB.out.trans (hb1.mono HB.out.size))
      have A1 := Lib.hid (blk_below X0.out hb1 (by have := HZ.out; omega))
      have C1 := Lib.hid (blk_below X1.out hb1 (by have := HZ.out; omega))
      have Y1 := Lib.hid (blk_below X2.out hb1 (by have := HZ.out; omega))
      clear hb1
      obtain ⟨y0, y1, y2, y3, y4, f0, f1, f2, f3, f4, yz⟩ := blk5s Y1.out
      go_wp2_with fail
      refine bodyPost_ret (v := .agg #[.int .i64 0, .slice none 0 0, .slice none 0 0, .slice none 0 0, .int .i64 1]) (by simp [results, Try.results19, go_sem, *]) rfl (so_code 1 ?_)
      exact (putS_below B1.out (by omega) _ _ _ _).setCell (p := ⟨w.heap.size + 1 + 1, 4, none⟩) (by show _ ≤ w.heap.size + 1 + 1; omega) _
    · have HS := Lib.hid hs
      cases hq : pathOk p
      · have HQ := Lib.hid hq
        obtain rfl : (zsh, 1) = r := by rw [← hr1, hs, hq]; rfl
        clear hr1 hs hq
        go_enter Try.func19, Try.ntmps19
        go_wp2_with fail
        rw [← HW.out]
        refine (specRight_is t _ HS.out _ W (IsSh.keep (Keeps.of_below HB.out) _ _ HH.out)).mono ?_
        rintro e w1 ⟨rfl, hb1⟩
        have B1 := Lib.hid (HB.out.trans (hb1.mono HB.out.size))
        have A1 := Lib.hid (blk_below X0.out hb1 (by have := HZ.out; omega))
        have C1 := Lib.hid (blk_below X1.out hb1 (by have := HZ.out; omega))
        have Y1 := Lib.hid (blk_below X2.out hb1 (by have := HZ.out; omega))
        clear hb1
        obtain ⟨y0, y1, y2, y3, y4, f0, f1, f2, f3, f4, yz⟩ := blk5s Y1.out
        go_wp2_with fail
        refine (specPath_is _ p _ HQ.out w1 (HP.out.keep (Keeps.of_below B1.out))).mono ?_
        rintro e w2 ⟨rfl, rfl⟩
        go_wp2_with fail
        refine bodyPost_ret (v := .agg #[.int .i64 0, .slice none 0 0, .slice none 0 0, .slice none 0 0, .int .i64 1]) (by simp [results, Try.results19, go_sem, *]) rfl (so_code 1 ?_)
        exact (putS_below B1.out (by omega) _ _ _ _).setCell (p := ⟨w.heap.size + 1 + 1, 4, none⟩) (by show _ ≤ w.heap.size + 1 + 1; omega) _
      · have HQ := Lib.hid hq
        cases hxr : rightB x
        · have HXR := Lib.hid hxr
          obtain rfl : (zsh, 1) = r := by rw [← hr1, hs, hq, hxr]; rfl
          clear hr1 hs hq hxr
          go_enter Try.func19, Try.ntmps19
          go_wp2_with fail
          rw [← HW.out]
          refine (specRight_is t _ HS.out _ W (IsSh.keep (Keeps.of_below HB.out) _ _ HH.out)).mono ?_
          rintro e w1 ⟨rfl, hb1⟩
          have B1 := Lib.hid (HB.out.trans (hb1.mono HB.out.size))
          have A1 := Lib.hid (blk_below X0.out hb1 (by have := HZ.out; omega))
          have C1 := Lib.hid (blk_below X1.out hb1 (by have := HZ.out; omega))
          have Y1 := Lib.hid (blk_below X2.out hb1 (by have := HZ.out; omega))
          clear hb1
          go_wp2_with fail
          refine (specPath_is _ p _ HQ.out w1 (HP.out.keep (Keeps.of_below B1.out))).mono ?_
          rintro e w2 ⟨rfl, rfl⟩
          obtain ⟨c0, c1, c2, c3, _, _, _, _, cz⟩ := blk4 C1.out
          go_wp2_with fail
          refine (specRight_is x _ HXR.out _ w1 (IsSh.keep (Keeps.of_below B1.out) _ _ HX.out)).mono ?_
          rintro e w2 ⟨rfl, hb2⟩
          have B2 := Lib.hid (B1.out.trans (hb2.mono B1.out.size))
          have A2 := Lib.hid (blk_below A1.out hb2 (Array.getElem?_eq_some_iff.1 A1.out).1)
          have C2 := Lib.hid (blk_below C1.out hb2 (Array.getElem?_eq_some_iff.1 C1.out).1)
          have Y2 := Lib.hid (blk_below Y1.out hb2 (Array.getElem?_eq_some_iff.1 Y1.out).1)
          clear hb2 c0 c1 c2 c3 cz
          obtain ⟨y0, y1, y2, y3, y4, f0, f1, f2, f3, f4, yz⟩ := blk5s Y2.out
          go_wp2_with fail
          refine bodyPost_ret (v := .agg #[.int .i64 0, .slice none 0 0, .slice none 0 0, .slice none 0 0, .int .i64 1]) (by simp [results, Try.results19, go_sem, *]) rfl (so_code 1 ?_)
          exact (putS_below B2.out (by omega) _ _ _ _).setCell (p := ⟨w.heap.size + 1 + 1, 4, none⟩) (by show _ ≤ w.heap.size + 1 + 1; omega) _
        · have HXR := Lib.hid hxr
          have hr2 : (match partP p t with | none => ((zsh, 6) : Sh × Int) | some _ => if rightB (swapR p t x) = false then (zsh, 9) else (swapR p t x, 0)) = r := by rw [← hr1, hs, hq, hxr]; rfl
          have hd : partOk 5 t = true := hs
          have hdx : partOk 5 x = true := hxr
          have HD := Lib.hid hd
          have HDX := Lib.hid hdx
          clear hr1 hs hq hxr hd hdx
          go_enter Try.func19, Try.ntmps19
          go_wp2_with fail
          rw [← HW.out]
          refine (specRight_is t _ HS.out _ W (IsSh.keep (Keeps.of_below HB.out) _ _ HH.out)).mono ?_
          rintro e w1 ⟨rfl, hb1⟩
          have B1 := Lib.hid (HB.out.trans (hb1.mono HB.out.size))
          have A1 := Lib.hid (blk_below X0.out hb1 (by have := HZ.out; omega))
          have C1 := Lib.hid (blk_below X1.out hb1 (by have := HZ.out; omega))
          have Y1 := Lib.hid (blk_below X2.out hb1 (by have := HZ.out; omega))
          clear hb1
          go_wp2_with fail
          refine (specPath_is _ p _ HQ.out w1 (HP.out.keep (Keeps.of_below B1.out))).mono ?_
          rintro e w2 ⟨rfl, rfl⟩
          obtain ⟨c0, c1, c2, c3, _, _, _, _, cz⟩ := blk4 C1.out
          go_wp2_with fail
          refine (specRight_is x _ HXR.out _ w1 (IsSh.keep (Keeps.of_below B1.out) _ _ HX.out)).mono ?_
          rintro e w2 ⟨rfl, hb2⟩
          have B2 := Lib.hid (B1.out.trans (hb2.mono B1.out.size))
          have A2 := Lib.hid (blk_below A1.out hb2 (Array.getElem?_eq_some_iff.1 A1.out).1)
          have C2 := Lib.hid (blk_below C1.out hb2 (Array.getElem?_eq_some_iff.1 C1.out).1)
          have Y2 := Lib.hid (blk_below Y1.out hb2 (Array.getElem?_eq_some_iff.1 Y1.out).1)
          clear hb2 c0 c1 c2 c3 cz
          obtain ⟨a0, a1, a2, a3, _, _, _, _, az⟩ := blk4 A2.out
          go_wp2_with fail
          refine (specPart_any t p 5 _ _ w2 HD.out (IsSh.keep (Keeps.of_below B2.out) _ _ HH.out) (HP.out.keep (Keeps.of_below B2.out))).mono ?_
          obtain ⟨rp, hrp⟩ : ∃ rp, partP p t = rp := ⟨_, rfl⟩
          rw [hrp] at hr2 ⊢
          rintro e w3 ⟨k, q1, u1, v1, q2, u2, v2, q3, u3, v3, rfl, hpr, hb3⟩
          obtain ⟨w4, hw⟩ : ∃ w', w' = w3.alloc (.cells #[.int .i64 k, .slice q1 u1 v1, .slice q2 u2 v2, .slice q3 u3 v3] 30) := ⟨_, rfl⟩
          have hba : Below w3.heap.size w3 w4 := by rw [hw]; exact below_alloc _ _
          have hbb := hb3.trans (hba.mono hb3.size)
          have B4 := Lib.hid (B2.out.trans (hbb.mono B2.out.size))
          have A4 := Lib.hid (blk_below A2.out hbb (Array.getElem?_eq_some_iff.1 A2.out).1)
          have C4 := Lib.hid (blk_below C2.out hbb (Array.getElem?_eq_some_iff.1 C2.out).1)
          have Y4 := Lib.hid (blk_below Y2.out hbb (Array.getElem?_eq_some_iff.1 Y2.out).1)
          have HW4 := Lib.hid hw
          have HZ4 := Lib.hid (Array.getElem?_eq_some_iff.1 Y4.out).1
          clear hpr hb3 hba hbb hw a0 a1 a2 a3 az
          cases rp with
          | none =>
            obtain rfl : (zsh, 6) = r := hr2
            clear hrp
            go_upto_region 6 with fail
            rw [← HW4.out]
            obtain ⟨y0, y1, y2, y3, y4, f0, f1, f2, f3, f4, yz⟩ := blk5s Y4.out
            go_wp2_with fail
            refine bodyPost_ret (v := .agg #[.int .i64 0, .slice none 0 0, .slice none 0 0, .slice none 0 0, .int .i64 6]) (by simp [results, Try.results19, go_sem, *]) rfl (so_code 6 ?_)
            exact (putS_below B4.out (by omega) _ _ _ _).setCell (p := ⟨w.heap.size + 1 + 1, 4, none⟩) (by show _ ≤ w.heap.size + 1 + 1; omega) _
          | some u =>
            have hr3 : (if rightB (swapR p t x) = false then ((zsh, 9) : Sh × Int) else (swapR p t x, 0)) = r := hr2
            have HPU := Lib.hid hrp
            clear hrp hr2
            go_upto_region 6 with fail
            rw [← HW4.out]
            obtain ⟨a0, a1, a2, a3, _, _, _, _, az⟩ := blk4 A4.out
            obtain ⟨c0, c1, c2, c3, _, _, _, _, cz⟩ := blk4 C4.out
            go_wp2_with fail
            refine (ss_any p t x u 5 5 _ _ _ w4 HD.out HDX.out HPU.out (IsSh.keep (Keeps.of_below B4.out) _ _ HH.out) (HP.out.keep (Keeps.of_below B4.out)) (IsSh.keep (Keeps.of_below B4.out) _ _ HX.out)).mono ?_
            obtain ⟨y, hy⟩ : ∃ y, swapR p t x = y := ⟨_, rfl⟩
            rw [hy] at hr3 ⊢
            rintro e w5 ⟨d0, d1, d2, d3, F, rfl, ho, hn, hb5⟩
            obtain ⟨k7, l7, o7, k8, l8, o8, k9, o9, rfl, rfl, rfl, rfl⟩ := cells3 (OwnSh.is _ _ _ ho)
            obtain ⟨w6, hw⟩ : ∃ w', w' = w5.alloc (.cells #[.int .i64 y.kd, .slice k7 l7 o7, .slice k8 l8 o8, .slice k9 y.su.length o9] 30) := ⟨_, rfl⟩
            have hba : Below w5.heap.size w5 w6 := by rw [hw]; exact below_alloc _ _
            have hbb := hb5.trans (hba.mono hb5.size)
            have V6 := Lib.hid (show w6.heap[w5.heap.size]? = some (.cells #[.int .i64 y.kd, .slice k7 l7 o7, .slice k8 l8 o8, .slice k9 y.su.length o9] 30 (0, 0)) by rw [hw]; exact Go.Deep.blk_alloc_new _ _)
            have HO6 : Hid (OwnSh w6 w4.heap.size y _ F) := OwnSh.move (Nat.le_refl _) _ _ _ (fun g hg => hba.block g (OwnSh.blocks _ _ _ ho g hg).2) ho
            have HN6 := Lib.hid hn
            have B6 := Lib.hid (B4.out.trans (hbb.mono B4.out.size))
            have Y6 := Lib.hid (blk_below Y4.out hbb (Array.getElem?_eq_some_iff.1 Y4.out).1)
            have HW6 := Lib.hid hw
            clear ho hn hb5 hba hbb hw hy a0 a1 a2 a3 az c0 c1 c2 c3 cz
            go_upto_region 9 with fail
            rw [← HW6.out]
            obtain ⟨v0, v1', v2', v3', _, _, _, _, vz⟩ := blk4 V6.out
            cases hry : rightB y
            · have HRY := Lib.hid hry
              obtain rfl : (zsh, 9) = r := by rw [← hr3, hry]; rfl
              clear hr3 hry
              go_wp2_with fail
              refine (specRight_is y _ HRY.out _ w6 (OwnSh.is _ _ _ HO6.out)).mono ?_
              rintro e w8 ⟨rfl, hb8⟩
              have B8 := Lib.hid (B6.out.trans (hb8.mono B6.out.size))
              obtain ⟨y0, y1, y2, y3, y4, f0, f1, f2, f3, f4, yz⟩ := blk5s (blk_below Y6.out hb8 (Array.getElem?_eq_some_iff.1 Y6.out).1)
              clear hb8 v0 v1' v2' v3' vz
              go_wp2_with fail
              refine bodyPost_ret (v := .agg #[.int .i64 0, .slice none 0 0, .slice none 0 0, .slice none 0 0, .int .i64 9]) (by simp [results, Try.results19, go_sem, *]) rfl (so_code 9 ?_)
              exact (putS_below B8.out (by omega) _ _ _ _).setCell (p := ⟨w.heap.size + 1 + 1, 4, none⟩) (by show _ ≤ w.heap.size + 1 + 1; omega) _
            · have HRY := Lib.hid hry
              obtain rfl : (y, 0) = r := by rw [← hr3, hry]; rfl
              clear hr3 hry
              go_wp2_with fail
              refine (specRight_is y _ HRY.out _ w6 (OwnSh.is _ _ _ HO6.out)).mono ?_
              rintro e w8 ⟨rfl, hb8⟩
              have B8 := Lib.hid (B6.out.trans (hb8.mono B6.out.size))
              have HO8 : Hid (OwnSh w8 w4.heap.size y _ F) := OwnSh.move (Nat.le_refl _) _ _ _ (fun g hg => hb8.block g (OwnSh.blocks _ _ _ HO6.out g hg).2) HO6.out
              obtain ⟨y0, y1, y2, y3, y4, f0, f1, f2, f3, f4, yz⟩ := blk5s (blk_below Y6.out hb8 (Array.getElem?_eq_some_iff.1 Y6.out).1)
              clear v0 v1' v2' v3' vz
              obtain ⟨v0, v1', v2', v3', _, _, _, _, vz⟩ := blk4 (blk_below V6.out hb8 (Array.getElem?_eq_some_iff.1 V6.out).1)
              clear hb8
              go_wp2_with fail
              refine bodyPost_ret (v := .agg #[.int .i64 y.kd, .slice k7 l7 o7, .slice k8 l8 o8, .slice k9 y.su.length o9, .int .i64 0]) (by simp [results, Try.results19, go_sem, *]) rfl ?_
              exact so_put B8.out (by omega) B4.out.size HO8.out HZ4.out HN6.out
end Go.Proofs.Ythllilkokkijaaa
