/- Walks: impl.Swap. -/
import Derived.Test.YthllilkokkijaaaGSwapQ
import Derived.Test.YthllilkokkijaaaGImPartW
namespace Go.Proofs.Ythllilkokkijaaa
open Go.RowKit

set_option maxRecDepth 100000 in
set_option maxHeartbeats 2000000 in
theorem implSwap_is (t : Sh) (p : List ByteArray) (x : Sh) (r : Sh × Int) (hr : swapA t p x = r) (v vp vx : Value) (w : World) (h : IsSh w t v) (hp : IsStrs w vp p) (hx : IsSh w x vx) :
    Calls Try.prog 20 #[v, vp, vx] w (SoPost r w) := by
  have HH := Lib.hid h
  have HP := Lib.hid hp
  have HX := Lib.hid hx
  obtain ⟨p1, n1, m1, p2, n2, m2, p3, n3, m3, rfl⟩ := h.agg
  obtain ⟨r1, i1, j1, r2, i2, j2, r3, i3, j3, rfl⟩ := hx.agg
  obtain ⟨_, _, a, cap, rfl, _, _, _⟩ := hp
  obtain ⟨W, hW⟩ : ∃ W, W = ((w.alloc (.cells #[.int .i64 t.kd, .slice p1 n1 m1, .slice p2 n2 m2, .slice p3 n3 m3] 30)).alloc (.cells #[.int .i64 x.kd, .slice r1 i1 j1, .slice r2 i2 j2, .slice r3 i3 j3] 30)).alloc (.cells #[.int .i64 0, .slice none 0 0, .slice none 0 0, .slice none 0 0, .int .i64 0] 42) := ⟨_, rfl⟩
  obtain ⟨x0, x1, x2⟩ := three_new w (.cells #[.int .i64 t.kd, .slice p1 n1 m1, .slice p2 n2 m2, .slice p3 n3 m3] 30) (.cells #[.int .i64 x.kd, .slice r1 i1 j1, .slice r2 i2 j2, .slice r3 i3 j3] 30) (.cells #[.int .i64 0, .slice none 0 0, .slice none 0 0, .slice none 0 0, .int .i64 0] 42)
  have hb : Below w.heap.size w W := by rw [hW]; exact ((below_alloc w _).alloc (by simp) _).alloc (by simp; omega) _
  have hz : W.heap.size = w.heap.size + 1 + 1 + 1 := by rw [hW]; simp
  rw [← hW] at x0 x1 x2
  have X0 := Lib.hid x0
  have X1 := Lib.hid x1
  have X2 := Lib.hid x2
  have HB := Lib.hid hb
  have HZ := Lib.hid hz
  have HW := Lib.hid hW
  clear h hx x0 x1 x2 hb hz hW
  by_cases hl : 400 < p.length
  · have hl' : (400 : Int) < p.length := by omega
    obtain rfl : (zsh, 2) = r := by rw [← hr]; exact (if_pos hl).symm
    clear hr hl
    go_enter Try.func20, Try.ntmps20
    go_wp2_with fail
    refine bodyPost_ret (v := .agg #[.int .i64 0, .slice none 0 0, .slice none 0 0, .slice none 0 0, .int .i64 2]) (by simp [results, Try.results20, go_sem, *]) rfl (so_code 2 ?_)
    exact ((below_alloc w _).alloc (by simp) _).alloc (by simp; omega) _
  · have hl' : (p.length : Int) ≤ 400 := by omega
    have hr1 : (if (rightB t && pathOk p && rightB x) = false then ((zsh, 1) : Sh × Int) else match partP p t with | none => (zsh, 6) | some _ => if rightB (swapR p t x) = false then (zsh, 9) else (swapR p t x, 0)) = r := by rw [← hr]; exact (if_neg hl).symm
    clear hr hl
    cases hs : rightB t
    · have HS := Lib.hid hs
      obtain rfl : (zsh, 1) = r := by rw [← hr1, hs]; rfl
      clear hr1 hs
      go_enter Try.func20, Try.ntmps20
      go_wp2_with fail
      rw [← HW.out]
      refine (implRight_is t _ HS.out _ W (IsSh.keep (Keeps.of_below HB.out) _ _ HH.out)).mono ?_
      rintro e w1 ⟨rfl, hb1⟩
      have B1 := Lib.hid (HB.out.trans (hb1.mono HB.out.size))
      have A1 := Lib.hid (blk_below X0.out hb1 (by have := HZ.out; omega))
      have C1 := Lib.hid (blk_below X1.out hb1 (by have := HZ.out; omega))
      have Y1 := Lib.hid (blk_below X2.out hb1 (by have := HZ.out; omega))
      clear hb1
      obtain ⟨y0, y1, y2, y3, y4, f0, f1, f2, f3, f4, yz⟩ := blk5s Y1.out
      go_wp2_with fail
      refine bodyPost_ret (v := .agg #[.int .i64 0, .slice none 0 0, .slice none 0 0, .slice none 0 0, .int .i64 1]) (by simp [results, Try.results20, go_sem, *]) rfl (so_code 1 ?_)
      exact (putS_below B1.out (by omega) _ _ _ _).setCell (p := ⟨w.heap.size + 1 + 1, 4, none⟩) (by show _ ≤ w.heap.size + 1 + 1; omega) _
    · have HS := Lib.hid hs
      cases hq : pathOk p
      · have HQ := Lib.hid hq
        obtain rfl : (zsh, 1) = r := by rw [← hr1, hs, hq]; rfl
        clear hr1 hs hq
        go_enter Try.func20, Try.ntmps20
        go_wp2_with fail
        rw [← HW.out]
        refine (implRight_is t _ HS.out _ W (IsSh.keep (Keeps.of_below HB.out) _ _ HH.out)).mono ?_
        rintro e w1 ⟨rfl, hb1⟩
        have B1 := Lib.hid (HB.out.trans (hb1.mono HB.out.size))
        have A1 := Lib.hid (blk_below X0.out hb1 (by have := HZ.out; omega))
        have C1 := Lib.hid (blk_below X1.out hb1 (by have := HZ.out; omega))
        have Y1 := Lib.hid (blk_below X2.out hb1 (by have := HZ.out; omega))
        clear hb1
        obtain ⟨y0, y1, y2, y3, y4, f0, f1, f2, f3, f4, yz⟩ := blk5s Y1.out
        go_wp2_with fail
        refine (implPath_is _ p _ HQ.out w1 (HP.out.keep (Keeps.of_below B1.out))).mono ?_
        rintro e w2 ⟨rfl, rfl⟩
        go_wp2_with fail
        refine bodyPost_ret (v := .agg #[.int .i64 0, .slice none 0 0, .slice none 0 0, .slice none 0 0, .int .i64 1]) (by simp [results, Try.results20, go_sem, *]) rfl (so_code 1 ?_)
        exact (putS_below B1.out (by omega) _ _ _ _).setCell (p := ⟨w.heap.size + 1 + 1, 4, none⟩) (by show _ ≤ w.heap.size + 1 + 1; omega) _
      · have HQ := Lib.hid hq
        cases hxr : rightB x
        · have HXR := Lib.hid hxr
          obtain rfl : (zsh, 1) = r := by rw [← hr1, hs, hq, hxr]; rfl
          clear hr1 hs hq hxr
          go_enter Try.func20, Try.ntmps20
          go_wp2_with fail
          rw [← HW.out]
          refine (implRight_is t _ HS.out _ W (IsSh.keep (Keeps.of_below HB.out) _ _ HH.out)).mono ?_
          rintro e w1 ⟨rfl, hb1⟩
          have B1 := Lib.hid (HB.out.trans (hb1.mono HB.out.size))
          have A1 := Lib.hid (blk_below X0.out hb1 (by have := HZ.out; omega))
          have C1 := Lib.hid (blk_below X1.out hb1 (by have := HZ.out; omega))
          have Y1 := Lib.hid (blk_below X2.out hb1 (by have := HZ.out; omega))
          clear hb1
          go_wp2_with fail
          refine (implPath_is _ p _ HQ.out w1 (HP.out.keep (Keeps.of_below B1.out))).mono ?_
          rintro e w2 ⟨rfl, rfl⟩
          obtain ⟨c0, c1, c2, c3, _, _, _, _, cz⟩ := blk4 C1.out
          go_wp2_with fail
          refine (implRight_is x _ HXR.out _ w1 (IsSh.keep (Keeps.of_below B1.out) _ _ HX.out)).mono ?_
          rintro e w2 ⟨rfl, hb2⟩
          have B2 := Lib.hid (B1.out.trans (hb2.mono B1.out.size))
          have A2 := Lib.hid (blk_below A1.out hb2 (Array.getElem?_eq_some_iff.1 A1.out).1)
          have C2 := Lib.hid (blk_below C1.out hb2 (Array.getElem?_eq_some_iff.1 C1.out).1)
          have Y2 := Lib.hid (blk_below Y1.out hb2 (Array.getElem?_eq_some_iff.1 Y1.out).1)
          clear hb2 c0 c1 c2 c3 cz
          obtain ⟨y0, y1, y2, y3, y4, f0, f1, f2, f3, f4, yz⟩ := blk5s Y2.out
          go_wp2_with fail
          refine bodyPost_ret (v := .agg #[.int .i64 0, .slice none 0 0, .slice none 0 0, .slice none 0 0, .int .i64 1]) (by simp [results, Try.results20, go_sem, *]) rfl (so_code 1 ?_)
          exact (putS_below B2.out (by omega) _ _ _ _).setCell (p := ⟨w.heap.size + 1 + 1, 4, none⟩) (by show _ ≤ w.heap.size + 1 + 1; omega) _
        · have HXR := Lib.hid hxr
          have hr2 : (match partP p t with | none => ((zsh, 6) : Sh × Int) | some _ => if rightB (swapR p t x) = false then (zsh, 9) else (swapR p t x, 0)) = r := by rw [← hr1, hs, hq, hxr]; rfl
          have hd : partOk 5 t = true := hs
          have hdx : partOk 5 x = true := hxr
          have HD := Lib.hid hd
          have HDX := Lib.hid hdx
          clear hr1 hs hq hxr hd hdx
          go_enter Try.func20, Try.ntmps20
          go_wp2_with fail
          rw [← HW.out]
          refine (implRight_is t _ HS.out _ W (IsSh.keep (Keeps.of_below HB.out) _ _ HH.out)).mono ?_
          rintro e w1 ⟨rfl, hb1⟩
          have B1 := Lib.hid (HB.out.trans (hb1.mono HB.out.size))
          have A1 := Lib.hid (blk_below X0.out hb1 (by have := HZ.out; omega))
          have C1 := Lib.hid (blk_below X1.out hb1 (by have := HZ.out; omega))
          have Y1 := Lib.hid (blk_below X2.out hb1 (by have := HZ.out; omega))
          clear hb1
          go_wp2_with fail
          refine (implPath_is _ p _ HQ.out w1 (HP.out.keep (Keeps.of_below B1.out))).mono ?_
          rintro e w2 ⟨rfl, rfl⟩
          obtain ⟨c0, c1, c2, c3, _, _, _, _, cz⟩ := blk4 C1.out
          go_wp2_with fail
          refine (implRight_is x _ HXR.out _ w1 (IsSh.keep (Keeps.of_below B1.out) _ _ HX.out)).mono ?_
          rintro e w2 ⟨rfl, hb2⟩
          have B2 := Lib.hid (B1.out.trans (hb2.mono B1.out.size))
          have A2 := Lib.hid (blk_below A1.out hb2 (Array.getElem?_eq_some_iff.1 A1.out).1)
          have C2 := Lib.hid (blk_below C1.out hb2 (Array.getElem?_eq_some_iff.1 C1.out).1)
          have Y2 := Lib.hid (blk_below Y1.out hb2 (Array.getElem?_eq_some_iff.1 Y1.out).1)
          clear hb2 c0 c1 c2 c3 cz
          obtain ⟨a0, a1, a2, a3, _, _, _, _, az⟩ := blk4 A2.out
          go_wp2_with fail
          refine (co_any 5 t _ w2 HD.out (IsSh.keep (Keeps.of_below B2.out) _ _ HH.out)).mono ?_
          rintro e w3 ⟨c0, c1, c2, c3, F, rfl, ho, hn, hb3⟩
          obtain ⟨k1, l1, o1, k2, l2, o2, k3, o3, rfl, rfl, rfl, rfl⟩ := cells3 (OwnSh.is _ _ _ ho)
          obtain ⟨w4, hw⟩ : ∃ w', w' = w3.alloc (.cells #[.int .i64 t.kd, .slice k1 l1 o1, .slice k2 l2 o2, .slice k3 t.su.length o3] 30) := ⟨_, rfl⟩
          have hba : Below w3.heap.size w3 w4 := by rw [hw]; exact below_alloc _ _
          have hbb := hb3.trans (hba.mono hb3.size)
          have V4 := Lib.hid (show w4.heap[w3.heap.size]? = some (.cells #[.int .i64 t.kd, .slice k1 l1 o1, .slice k2 l2 o2, .slice k3 t.su.length o3] 30 (0, 0)) by rw [hw]; exact Go.Deep.blk_alloc_new _ _)
          have HO : Hid (OwnSh w4 w2.heap.size t _ F) := OwnSh.move (Nat.le_refl _) _ _ _ (fun g hg => hba.block g (OwnSh.blocks _ _ _ ho g hg).2) ho
          have HN := Lib.hid hn
          have HF := Lib.hid (fun g hg => OwnSh.blocks _ _ _ ho g hg)
          have B4 := Lib.hid (B2.out.trans (hbb.mono B2.out.size))
          have C4 := Lib.hid (blk_below C2.out hbb (Array.getElem?_eq_some_iff.1 C2.out).1)
          have Y4 := Lib.hid (blk_below Y2.out hbb (Array.getElem?_eq_some_iff.1 Y2.out).1)
          have HW4 := Lib.hid hw
          have HZ4 := Lib.hid (And.intro B2.out.size (And.intro hb3.size (And.intro (Array.getElem?_eq_some_iff.1 V4.out).1 (Array.getElem?_eq_some_iff.1 Y2.out).1)))
          have hst : Stands w4 t w3.heap.size 0 := by
            obtain ⟨b0, b1, b2, b3, _⟩ := blk4 V4.out
            exact ⟨_, _, _, _, b0, b1, b2, b3, OwnSh.is _ _ _ HO.out⟩
          have HST := Lib.hid hst
          clear ho hn hb3 hba hbb hw hst a0 a1 a2 a3 az
          go_wp2_with fail
          rw [← HW4.out]
          refine (pi_any p t 5 w3.heap.size 0 _ w4 w4 (Below.refl _ _) HD.out HST.out (HP.out.keep (Keeps.of_below B4.out))).mono ?_
          rintro e w5 ⟨pr, rfl, hpr, hb5⟩
          have B5 := Lib.hid (B4.out.trans (hb5.mono B4.out.size))
          have BB5 := Lib.hid hb5
          have V5 := Lib.hid (blk_below V4.out hb5 (Array.getElem?_eq_some_iff.1 V4.out).1)
          have C5 := Lib.hid (blk_below C4.out hb5 (Array.getElem?_eq_some_iff.1 C4.out).1)
          have Y5 := Lib.hid (blk_below Y4.out hb5 (Array.getElem?_eq_some_iff.1 Y4.out).1)
          cases hpp : partP p t with
          | none =>
            obtain rfl : (zsh, 6) = r := by rw [← hr2, hpp]
            obtain rfl := hpr.1 hpp
            obtain ⟨y0, y1, y2, y3, y4, f0, f1, f2, f3, f4, yz⟩ := blk5s Y5.out
            clear hpr hb5 hr2 hpp
            go_wp2_with fail
            refine bodyPost_ret (v := .agg #[.int .i64 0, .slice none 0 0, .slice none 0 0, .slice none 0 0, .int .i64 6]) (by simp [results, Try.results20, go_sem, *]) rfl (so_code 6 ?_)
            exact (putS_below B5.out (by omega) _ _ _ _).setCell (p := ⟨w.heap.size + 1 + 1, 4, none⟩) (by show _ ≤ w.heap.size + 1 + 1; omega) _
          | some u =>
            have hr3 : (if rightB (swapR p t x) = false then ((zsh, 9) : Sh × Int) else (swapR p t x, 0)) = r := by rw [← hr2, hpp]
            obtain ⟨b', o', rfl, hlead, hsu⟩ := hpr.2 u hpp
            have HL := Lib.hid hlead
            obtain ⟨g0, g1, g2, g3, e0, e1, e2, e3, _⟩ := hsu.keep (Keeps.of_below hb5)
            have HE := Lib.hid (And.intro e0 (And.intro e1 (And.intro e2 e3)))
            obtain ⟨c0, c1, c2, c3, _, _, _, _, cz⟩ := blk4 C5.out
            clear hpr hb5 hr2 hpp hsu hlead e0 e1 e2 e3
            go_wp2_with fail
            refine (co_any 5 x _ w5 HDX.out (IsSh.keep (Keeps.of_below B5.out) _ _ HX.out)).mono ?_
            rintro e w6 ⟨d0, d1, d2, d3, F2, rfl, ho, hn, hb6⟩
            obtain ⟨k4, l4, o4, k5, l5, o5, k6, o6, rfl, rfl, rfl, rfl⟩ := cells3 (OwnSh.is _ _ _ ho)
            have B6 := Lib.hid (B5.out.trans (hb6.mono B5.out.size))
            have Y6 := Lib.hid (blk_below Y5.out hb6 (Array.getElem?_eq_some_iff.1 Y5.out).1)
            obtain ⟨hfr, hbin, e0, e1, e2, e3, F', hv7, ho7, hn7, hf7⟩ := swap_at HO.out HN.out V4.out (fun hf => by have := HF.out _ hf; omega) HL.out (BB5.out.trans (hb6.mono BB5.out.size)) ho hn BB5.out.size (by have := HZ4.out; have := BB5.out.size; omega)
            have e0' := Keeps.of_below hb6 _ _ _ HE.out.1
            have e1' := Keeps.of_below hb6 _ _ _ HE.out.2.1
            have e2' := Keeps.of_below hb6 _ _ _ HE.out.2.2.1
            have e3' := Keeps.of_below hb6 _ _ _ HE.out.2.2.2
            have f0' := hfr o'
            have f1' := hfr (o' + 1)
            have f2' := hfr (o' + 2)
            have f3' := hfr (o' + 3)
            obtain ⟨w7, hw7⟩ : ∃ w', w' = putAt w6 b' o' (.int .i64 x.kd) (.slice k4 l4 o4) (.slice k5 l5 o5) (.slice k6 x.su.length o6) := ⟨_, rfl⟩
            have hz4 := HZ4.out
            have hbB : w2.heap.size ≤ b' := by rcases hbin with h | h; omega; exact (HF.out b' h).1
            have B7 : Hid (Below w.heap.size w w7) := by show Below _ _ _; rw [hw7]; exact putAt_below B6.out (by omega) _ _ _ _ _
            have Y7 : Hid (w7.heap[w.heap.size + 1 + 1]? = some (.cells #[.int .i64 0, .slice none 0 0, .slice none 0 0, .slice none 0 0, .int .i64 0] 42 (0, 0))) := by show _ = _; rw [hw7, putAt_other _ _ _ _ _ _ _ (show w.heap.size + 1 + 1 ≠ b' by omega)]; exact Y6.out
            rw [← hw7] at hv7 ho7
            have HV7 := Lib.hid hv7
            have HO7 := Lib.hid ho7
            have HN7 := Lib.hid hn7
            have HW7 := Lib.hid hw7
            clear ho hn hb6 hfr hbin hv7 ho7 hn7 hf7 c0 c1 c2 c3 cz hw7 hz4 hbB
            go_upto_region 10 with fail
            rw [show ((((w6.setCell ⟨b', o', none⟩ (.int .i64 x.kd)).setCell ⟨b', o' + 1, none⟩ (.slice k4 l4 o4)).setCell ⟨b', o' + 2, none⟩ (.slice k5 l5 o5)).setCell ⟨b', o' + 3, none⟩ (.slice k6 x.su.length o6)) = w7 from HW7.out.symm]
            clear e0' e1' e2' e3' f0' f1' f2' f3'
            obtain ⟨y, hy⟩ : ∃ y, swapR p t x = y := ⟨_, rfl⟩
            rw [hy] at hr3 HO7
            obtain ⟨k7, l7, o7, k8, l8, o8, k9, o9, rfl, rfl, rfl, rfl⟩ := cells3 (OwnSh.is _ _ _ HO7.out)
            obtain ⟨v0, v1, v2, v3, _, _, _, _, vz⟩ := blk4 HV7.out
            cases hry : rightB y
            · have HRY := Lib.hid hry
              obtain rfl : (zsh, 9) = r := by rw [← hr3, hry]; rfl
              clear hr3 hry hy
              go_wp2_with fail
              refine (implRight_is y _ HRY.out _ w7 (OwnSh.is _ _ _ HO7.out)).mono ?_
              rintro e w8 ⟨rfl, hb8⟩
              have B8 := Lib.hid (B7.out.trans (hb8.mono B7.out.size))
              obtain ⟨y0, y1, y2, y3, y4, f0, f1, f2, f3, f4, yz⟩ := blk5s (blk_below Y7.out hb8 (Array.getElem?_eq_some_iff.1 Y7.out).1)
              clear hb8 v0 v1 v2 v3 vz
              go_wp2_with fail
              refine bodyPost_ret (v := .agg #[.int .i64 0, .slice none 0 0, .slice none 0 0, .slice none 0 0, .int .i64 9]) (by simp [results, Try.results20, go_sem, *]) rfl (so_code 9 ?_)
              exact (putS_below B8.out (by omega) _ _ _ _).setCell (p := ⟨w.heap.size + 1 + 1, 4, none⟩) (by show _ ≤ w.heap.size + 1 + 1; omega) _
            · have HRY := Lib.hid hry
              obtain rfl : (y, 0) = r := by rw [← hr3, hry]; rfl
              clear hr3 hry hy
              go_wp2_with fail
              refine (implRight_is y _ HRY.out _ w7 (OwnSh.is _ _ _ HO7.out)).mono ?_
              rintro e w8 ⟨rfl, hb8⟩
              have B8 := Lib.hid (B7.out.trans (hb8.mono B7.out.size))
              have HO8 : Hid (OwnSh w8 w2.heap.size y _ F') := OwnSh.move (Nat.le_refl _) _ _ _ (fun g hg => hb8.block g (OwnSh.blocks _ _ _ HO7.out g hg).2) HO7.out
              obtain ⟨y0, y1, y2, y3, y4, f0, f1, f2, f3, f4, yz⟩ := blk5s (blk_below Y7.out hb8 (Array.getElem?_eq_some_iff.1 Y7.out).1)
              clear v0 v1 v2 v3 vz
              obtain ⟨v0, v1, v2, v3, _, _, _, _, vz⟩ := blk4 (blk_below HV7.out hb8 (Array.getElem?_eq_some_iff.1 HV7.out).1)
              clear hb8
              go_wp2_with fail
              refine bodyPost_ret (v := .agg #[.int .i64 y.kd, .slice k7 l7 o7, .slice k8 l8 o8, .slice k9 y.su.length o9, .int .i64 0]) (by simp [results, Try.results20, go_sem, *]) rfl ?_
              exact so_put B8.out (by omega) B2.out.size HO8.out (by have := HZ4.out; omega) HN7.out
end Go.Proofs.Ythllilkokkijaaa
