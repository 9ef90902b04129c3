/- Walk: impl.EditBack. -/
import Derived.Test.YtfdhmkmeffgkgaaDoorGUndA
namespace Go.Proofs.YtfdhmkmeffgkgaaDoor
open Go.RowKit

theorem own_zero (w : World) (B : Nat) : OwnEd w B edZero (.agg #[.int .i64 0, .slice none 0 0, .int .i64 0, .string ⟨#[]⟩, .string ⟨#[]⟩, .int .i64 0, .slice none 0 0, .slice none 0 0, .slice none 0 0, .int .i64 0, .slice none 0 0, .slice none 0 0, .slice none 0 0]) [] := by
  have hs : OwnStrs w B (.slice none 0 0) [] := ⟨by simp, World.ownsRow_nil _ _ _ _⟩
  have hz : OwnSh w B (.mk 0 [] [] []) (.agg #[.int .i64 0, .slice none 0 0, .slice none 0 0, .slice none 0 0]) [] := by
    simp only [OwnSh, OwnAll]
    exact ⟨_, _, _, [], [], rfl, by unfold InI64'; omega, hs, hs, World.ownsRow_nil _ _ _ _, ⟨rfl, rfl⟩, by simp [blkOf]⟩
  exact ⟨none, 0, none, 0, 0, none, 0, 0, none, 0, 0, none, 0, 0, none, 0, 0, none, 0, 0, [], [], rfl, by unfold InI64' edZero; simp, by unfold InI64' edZero; simp, show (⟨#[]⟩ : ByteArray).size ≤ 9223372036854775807 by decide, show (⟨#[]⟩ : ByteArray).size ≤ 9223372036854775807 by decide, hs, hz, hz, by simp [blkOf]⟩
theorem ed_ret {r : Ed} {w u V wf : World} {d : Nat} {v : Value} {F : List Nat} (ho : OwnEd V u.heap.size r v F) (hn : F.Nodup) (hy : Only [d] V wf) (h0 : w.heap.size ≤ u.heap.size) (hd : d < u.heap.size) (hd0 : w.heap.size ≤ d) (hb : Below w.heap.size w V) : EdPost r w (.returned v) wf :=
  ⟨_, _, rfl, OwnEd.move h0 (fun g hg => by have q := OwnEd.blocks ho g hg; exact hy.block g q.2 (by simp; omega)) ho, hn, hb.trans (hy.below hb.size (by simpa using hd0))⟩

set_option maxRecDepth 100000 in
set_option maxHeartbeats 4000000 in
theorem implBack_is (t : Ed) (r : Ed) (hr : backR t = r) (v : Value) (w : World) (h : IsEd w t v) (hek : EkAt w) :
    Calls Tryd.prog 9 #[v] w (EdPost r w) := by
  have HH := Lib.hid h
  have EK := Lib.hid hek
  clear hek
  obtain ⟨p0, m0, p1, n1, m1, p2, n2, m2, p3, n3, m3, q1, i1, j1, q2, i2, j2, q3, i3, j3, rfl, _, _, _, _, _, _, _⟩ := h
  obtain ⟨W, hW⟩ : ∃ W, W = (w.alloc (.cells #[.int .i64 t.kd, .slice p0 t.path.length m0, .int .i64 t.pl, .string t.nm, .string t.tn, .int .i64 t.sh.kd, .slice p1 n1 m1, .slice p2 n2 m2, .slice p3 n3 m3, .int .i64 t.ws.kd, .slice q1 i1 j1, .slice q2 i2 j2, .slice q3 i3 j3] 33)).alloc (.cells #[.int .i64 0, .slice none 0 0, .int .i64 0, .string ⟨#[]⟩, .string ⟨#[]⟩, .int .i64 0, .slice none 0 0, .slice none 0 0, .slice none 0 0, .int .i64 0, .slice none 0 0, .slice none 0 0, .slice none 0 0] 33) := ⟨_, rfl⟩
  obtain ⟨x0, x1⟩ := two_new w (.cells #[.int .i64 t.kd, .slice p0 t.path.length m0, .int .i64 t.pl, .string t.nm, .string t.tn, .int .i64 t.sh.kd, .slice p1 n1 m1, .slice p2 n2 m2, .slice p3 n3 m3, .int .i64 t.ws.kd, .slice q1 i1 j1, .slice q2 i2 j2, .slice q3 i3 j3] 33) (.cells #[.int .i64 0, .slice none 0 0, .int .i64 0, .string ⟨#[]⟩, .string ⟨#[]⟩, .int .i64 0, .slice none 0 0, .slice none 0 0, .slice none 0 0, .int .i64 0, .slice none 0 0, .slice none 0 0, .slice none 0 0] 33)
  have hb : Below w.heap.size w W := by rw [hW]; exact (below_alloc w _).alloc (by simp) _
  have hWs : W.heap.size = w.heap.size + 1 + 1 := by rw [hW]; simp
  rw [← hW] at x0 x1
  have A0 := Lib.hid x0
  have D0 := Lib.hid x1
  have B0 := Lib.hid hb
  have HW := Lib.hid hW
  have WS := Lib.hid hWs
  have HR := Lib.hid hr
  obtain ⟨ok, hok⟩ : ∃ ok, edOk t = ok := ⟨_, rfl⟩
  have OK := Lib.hid hok
  clear x0 x1 hb hW hWs hr hok
  have a0 := cel A0.out 0 rfl
  have a1 := cel A0.out 1 rfl
  have a2 := cel A0.out 2 rfl
  have a3 := cel A0.out 3 rfl
  have a4 := cel A0.out 4 rfl
  have a5 := cel A0.out 5 rfl
  have a6 := cel A0.out 6 rfl
  have a7 := cel A0.out 7 rfl
  have a8 := cel A0.out 8 rfl
  have a9 := cel A0.out 9 rfl
  have a10 := cel A0.out 10 rfl
  have a11 := cel A0.out 11 rfl
  have a12 := cel A0.out 12 rfl
  go_enter Tryd.func9, Tryd.ntmps9
  go_wp2_with fail
  rw [← HW.out]
  refine (implEd_is t ok OK.out _ _ (HH.out.keep (Keeps.of_below B0.out)) (EK.out.keep (Keeps.of_below B0.out))).mono ?_
  rintro e w1 ⟨rfl, hb1⟩
  have A1 := Lib.hid (blk_below A0.out hb1 (Array.getElem?_eq_some_iff.1 A0.out).1)
  have D1 := Lib.hid (blk_below D0.out hb1 (Array.getElem?_eq_some_iff.1 D0.out).1)
  have B1 := Lib.hid (B0.out.trans (hb1.mono B0.out.size))
  have Z1 := Lib.hid hb1.size
  clear hb1 a0 a1 a2 a3 a4 a5 a6 a7 a8 a9 a10 a11 a12
  cases ok
  · have HZ : Hid (r = edZero) := by show _ = _; rw [← HR.out]; unfold backR; rw [OK.out]; rfl
    have d0 := cel D1.out 0 rfl
    have g0 := frz_of D1.out 0
    have d1 := cel D1.out 1 rfl
    have g1 := frz_of D1.out 1
    have d2 := cel D1.out 2 rfl
    have g2 := frz_of D1.out 2
    have d3 := cel D1.out 3 rfl
    have g3 := frz_of D1.out 3
    have d4 := cel D1.out 4 rfl
    have g4 := frz_of D1.out 4
    have d5 := cel D1.out 5 rfl
    have g5 := frz_of D1.out 5
    have d6 := cel D1.out 6 rfl
    have g6 := frz_of D1.out 6
    have d7 := cel D1.out 7 rfl
    have g7 := frz_of D1.out 7
    have d8 := cel D1.out 8 rfl
    have g8 := frz_of D1.out 8
    have d9 := cel D1.out 9 rfl
    have g9 := frz_of D1.out 9
    have d10 := cel D1.out 10 rfl
    have g10 := frz_of D1.out 10
    have d11 := cel D1.out 11 rfl
    have g11 := frz_of D1.out 11
    have d12 := cel D1.out 12 rfl
    have g12 := frz_of D1.out 12
    go_wp2_with fail
    refine bodyPost_ret (v := .agg #[.int .i64 0, .slice none 0 0, .int .i64 0, .string ⟨#[]⟩, .string ⟨#[]⟩, .int .i64 0, .slice none 0 0, .slice none 0 0, .slice none 0 0, .int .i64 0, .slice none 0 0, .slice none 0 0, .slice none 0 0]) ?_ rfl ?_
    · simp [results, Tryd.results9, go_sem, d0, d1, d2, d3, d4, d5, d6, d7, d8, d9, d10, d11, d12]
    · rw [HZ.out]
      exact ed_ret (d := w.heap.size + 1) (u := W) (own_zero w1 W.heap.size) List.nodup_nil ((((((((((((((Only.refl [w.heap.size + 1] w1).set (by simp) 0 _).set (by simp) 1 _).set (by simp) 2 _).set (by simp) 3 _).set (by simp) 4 _).set (by simp) 5 _).set (by simp) 6 _).set (by simp) 7 _).set (by simp) 8 _).set (by simp) 9 _).set (by simp) 10 _).set (by simp) 11 _).set (by simp) 12 _) B0.out.size (by have := WS.out; omega) (by omega) B1.out
  · have HU : Hid (r = undoneR t) := by show _ = _; rw [← HR.out]; unfold backR; rw [OK.out]; rfl
    have a0 := cel A1.out 0 rfl
    have a1 := cel A1.out 1 rfl
    have a2 := cel A1.out 2 rfl
    have a3 := cel A1.out 3 rfl
    have a4 := cel A1.out 4 rfl
    have a5 := cel A1.out 5 rfl
    have a6 := cel A1.out 6 rfl
    have a7 := cel A1.out 7 rfl
    have a8 := cel A1.out 8 rfl
    have a9 := cel A1.out 9 rfl
    have a10 := cel A1.out 10 rfl
    have a11 := cel A1.out 11 rfl
    have a12 := cel A1.out 12 rfl
    go_wp2_with fail
    refine (und_cut t _ _ OK.out (HH.out.keep (Keeps.of_below B1.out)) (EK.out.keep (Keeps.of_below B1.out))).mono ?_
    rintro e w2 ⟨v2, F2, rfl, ho, hn, hb2⟩
    have D2 := Lib.hid (blk_below D1.out hb2 (Array.getElem?_eq_some_iff.1 D1.out).1)
    have B2 := Lib.hid (B1.out.trans (hb2.mono B1.out.size))
    obtain ⟨e0, l0, e1, u1, l1, e2, u2, l2, e3, u3, l3, v1, z1, h1, v2', z2, h2, v3, z3, h3, rfl, _, _, _, _, _, _, _⟩ := ho.is
    have HO := Lib.hid ho
    have HN := Lib.hid hn
    clear ho hn hb2 a0 a1 a2 a3 a4 a5 a6 a7 a8 a9 a10 a11 a12
    have d0 := cel D2.out 0 rfl
    have g0 := frz_of D2.out 0
    have d1 := cel D2.out 1 rfl
    have g1 := frz_of D2.out 1
    have d2 := cel D2.out 2 rfl
    have g2 := frz_of D2.out 2
    have d3 := cel D2.out 3 rfl
    have g3 := frz_of D2.out 3
    have d4 := cel D2.out 4 rfl
    have g4 := frz_of D2.out 4
    have d5 := cel D2.out 5 rfl
    have g5 := frz_of D2.out 5
    have d6 := cel D2.out 6 rfl
    have g6 := frz_of D2.out 6
    have d7 := cel D2.out 7 rfl
    have g7 := frz_of D2.out 7
    have d8 := cel D2.out 8 rfl
    have g8 := frz_of D2.out 8
    have d9 := cel D2.out 9 rfl
    have g9 := frz_of D2.out 9
    have d10 := cel D2.out 10 rfl
    have g10 := frz_of D2.out 10
    have d11 := cel D2.out 11 rfl
    have g11 := frz_of D2.out 11
    have d12 := cel D2.out 12 rfl
    have g12 := frz_of D2.out 12
    go_wp2_with fail
    refine bodyPost_ret (v := .agg #[.int .i64 (undoneR t).kd, .slice e0 (undoneR t).path.length l0, .int .i64 (undoneR t).pl, .string (undoneR t).nm, .string (undoneR t).tn, .int .i64 (undoneR t).sh.kd, .slice e1 u1 l1, .slice e2 u2 l2, .slice e3 u3 l3, .int .i64 (undoneR t).ws.kd, .slice v1 z1 h1, .slice v2' z2 h2, .slice v3 z3 h3]) ?_ rfl ?_
    · simp [results, Tryd.results9, go_sem, d0, d1, d2, d3, d4, d5, d6, d7, d8, d9, d10, d11, d12]
    · rw [HU.out]
      exact ed_ret (d := w.heap.size + 1) (u := w1) HO.out HN.out ((((((((((((((Only.refl [w.heap.size + 1] w2).set (by simp) 0 _).set (by simp) 1 _).set (by simp) 2 _).set (by simp) 3 _).set (by simp) 4 _).set (by simp) 5 _).set (by simp) 6 _).set (by simp) 7 _).set (by simp) 8 _).set (by simp) 9 _).set (by simp) 10 _).set (by simp) 11 _).set (by simp) 12 _) B1.out.size (by have := WS.out; have := Z1.out; omega) (by omega) B2.out
end Go.Proofs.YtfdhmkmeffgkgaaDoor
