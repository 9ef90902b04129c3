/- Walk: spec.l07Copy. -/
import Derived.Test.YtfdhmkmeffgkgaaDoorGEdBkP
import Derived.Test.YtfdhmkmeffgkgaaDoorGCopySpW
import Derived.Test.YtfdhmkmeffgkgaaDoorGStA
namespace Go.Proofs.YtfdhmkmeffgkgaaDoor
open Go.RowKit

theorem cpS {t : Sh} (h : CpOk t) (v : Value) (w : World) (g : IsSh w t v) : Calls Tryd.prog 53 #[v] w (ToPost t w) := by
  rcases h with h | rfl
  · exact cs_any 5 t v w h g
  · exact cs_zero 0 v w g

set_option maxRecDepth 100000 in
set_option maxHeartbeats 4000000 in
theorem cpEd_is (t : Ed) (hp : t.path.length ≤ 5) (h5 : CpOk t.sh) (h6 : CpOk t.ws) (v : Value) (w : World) (h : IsEd w t v) :
    Calls Tryd.prog 40 #[v] w (EdPost t w) := by
  obtain ⟨p0, m0, p1, n1, m1, p2, n2, m2, p3, n3, m3, q1, i1, j1, q2, i2, j2, q3, i3, j3, rfl, k1, k2, y3, y4, g5, g6, g7⟩ := h
  obtain ⟨W, hW⟩ : ∃ W, W = (w.alloc (.cells #[.int .i64 t.kd, .slice p0 t.path.length m0, .int .i64 t.pl, .string t.nm, .string t.tn, .int .i64 t.sh.kd, .slice p1 n1 m1, .slice p2 n2 m2, .slice p3 n3 m3, .int .i64 t.ws.kd, .slice q1 i1 j1, .slice q2 i2 j2, .slice q3 i3 j3] 33)).alloc (.cells #[.int .i64 0, .slice none 0 0, .int .i64 0, .string ⟨#[]⟩, .string ⟨#[]⟩, .int .i64 0, .slice none 0 0, .slice none 0 0, .slice none 0 0, .int .i64 0, .slice none 0 0, .slice none 0 0, .slice none 0 0] 33) := ⟨_, rfl⟩
  obtain ⟨x0, x1⟩ := two_new w (.cells #[.int .i64 t.kd, .slice p0 t.path.length m0, .int .i64 t.pl, .string t.nm, .string t.tn, .int .i64 t.sh.kd, .slice p1 n1 m1, .slice p2 n2 m2, .slice p3 n3 m3, .int .i64 t.ws.kd, .slice q1 i1 j1, .slice q2 i2 j2, .slice q3 i3 j3] 33) (.cells #[.int .i64 0, .slice none 0 0, .int .i64 0, .string ⟨#[]⟩, .string ⟨#[]⟩, .int .i64 0, .slice none 0 0, .slice none 0 0, .slice none 0 0, .int .i64 0, .slice none 0 0, .slice none 0 0, .slice none 0 0] 33)
  have hb : Below w.heap.size w W := by rw [hW]; exact (below_alloc w _).alloc (by simp) _
  have hWs : W.heap.size = w.heap.size + 1 + 1 := by rw [hW]; simp
  rw [← hW] at x0 x1
  have A0 := Lib.hid x0
  have D0 := Lib.hid x1
  have B0 := Lib.hid hb
  have HW := Lib.hid hW
  have WS := Lib.hid hWs
  have K1 := Lib.hid k1
  have K2 := Lib.hid k2
  have H5 := Lib.hid (g5.keep (Keeps.of_below hb))
  have H6 := Lib.hid g6
  have H7 := Lib.hid g7
  have C5 := Lib.hid h5
  have C6 := Lib.hid h6
  have HP := Lib.hid hp
  clear x0 x1 hb hW hWs k1 k2 g5 g6 g7 h5 h6 hp
  have a1 := cel A0.out 1 rfl
  have az : w.heap.size < W.heap.size := by have := WS.out; omega
  go_enter Tryd.func40, Tryd.ntmps40
  go_upto_region 1 with fail
  rw [← HW.out]
  go_wp2_with (at_builtin; go_must (refine wpList_strs (W.alloc (.cells #[] 9)) rfl (.tmp 3) (.tmp 5) rfl W.heap.size (.slice (some ⟨W.heap.size, 0, none⟩) 0 0) _ [] t.path rfl (own_empty (Go.Deep.blk_alloc_new _ _) (Nat.le_refl _)) rfl (H5.out.keep (keeps_alloc W _)) (by have := HP.out; simp; omega) (by simp) ?_))
  intro v' w1 hv hg
  obtain ⟨r0, rn, rm, rfl⟩ := hv.slice
  obtain rfl := own_len hv
  have hb1 : Below W.heap.size W w1 := hg _ _ (below_alloc W _) (Nat.le_refl _)
  have O1 := Lib.hid hv
  have A1 := Lib.hid (blk_below A0.out hb1 (Array.getElem?_eq_some_iff.1 A0.out).1)
  have D1 := Lib.hid (blk_below D0.out hb1 (Array.getElem?_eq_some_iff.1 D0.out).1)
  have B1 := Lib.hid (B0.out.trans (hb1.mono B0.out.size))
  have Z1 := Lib.hid hb1.size
  clear hv hg hb1 a1
  have a1 := cel A1.out 1 rfl
  have f1 := frz_of A1.out 1
  have a5 := cel A1.out 5 rfl
  have f5 := frz_of A1.out 5
  have a6 := cel A1.out 6 rfl
  have f6 := frz_of A1.out 6
  have a7 := cel A1.out 7 rfl
  have f7 := frz_of A1.out 7
  have a8 := cel A1.out 8 rfl
  have f8 := frz_of A1.out 8
  go_wp2_with fail
  obtain ⟨X1, hX1⟩ : ∃ X, X = w1.setCell ⟨w.heap.size, 1, none⟩ (.slice r0 t.path.length rm) := ⟨_, rfl⟩
  have hc : X1.heap[w.heap.size]? = some (.cells #[.int .i64 t.kd, .slice r0 t.path.length rm, .int .i64 t.pl, .string t.nm, .string t.tn, .int .i64 t.sh.kd, .slice p1 n1 m1, .slice p2 n2 m2, .slice p3 n3 m3, .int .i64 t.ws.kd, .slice q1 i1 j1, .slice q2 i2 j2, .slice q3 i3 j3] 33 (0, 0)) := by have h0 := blk_set A1.out 1 (.slice r0 t.path.length rm); rw [← hX1] at h0; simpa only [List.setIfInBounds_toArray, List.set_cons_zero, List.set_cons_succ] using h0
  have hy : Only [w.heap.size] w1 X1 := by rw [hX1]; exact (Only.refl _ w1).set (by simp) 1 _
  rw [← hX1]
  have OX1 := Lib.hid hy
  have A1x := Lib.hid hc
  have D1x := Lib.hid ((hy.block (w.heap.size + 1) (Array.getElem?_eq_some_iff.1 D1.out).1 (by simp)).trans D1.out)
  have B1x := Lib.hid (B1.out.trans (hy.below B1.out.size (by simp)))
  have Z1x := Lib.hid (Nat.le_trans Z1.out hy.size)
  clear hc hy hX1
  clear a1 f1 a5 f5 a6 f6 a7 f7 a8 f8
  refine (cpS C5.out _ X1 (IsSh.keep (Keeps.of_below B1x.out) _ _ H6.out)).mono ?_
  rintro e w2 ⟨c0, c1, c2, c3, G2, rfl, ho, hn, hb⟩
  obtain ⟨s1, sn1, sm1, s2, sn2, sm2, s3, sn3, sm3, rfl, rfl, rfl, rfl⟩ := (OwnSh.is _ _ _ ho).cells
  have O2 := Lib.hid ho
  have N2 := Lib.hid hn
  have S2 := Lib.hid hb
  have A2 := Lib.hid (blk_below A1x.out hb (Array.getElem?_eq_some_iff.1 A1x.out).1)
  have D2 := Lib.hid (blk_below D1x.out hb (Array.getElem?_eq_some_iff.1 D1x.out).1)
  have B2 := Lib.hid (B1x.out.trans (hb.mono B1x.out.size))
  have Z2 := Lib.hid (Nat.le_trans Z1x.out hb.size)
  clear ho hn hb
  have a5 := cel A2.out 5 rfl
  have f5 := frz_of A2.out 5
  have a6 := cel A2.out 6 rfl
  have f6 := frz_of A2.out 6
  have a7 := cel A2.out 7 rfl
  have f7 := frz_of A2.out 7
  have a8 := cel A2.out 8 rfl
  have f8 := frz_of A2.out 8
  go_upto_region 3 with fail
  have hp := put4s A2.out 5 6 7 8 (.int .i64 t.sh.kd) (.slice s1 sn1 sm1) (.slice s2 sn2 sm2) (.slice s3 sn3 sm3)
  obtain ⟨X2, hX2⟩ : ∃ X, X = (((w2.setCell ⟨w.heap.size, 5, none⟩ (.int .i64 t.sh.kd)).setCell ⟨w.heap.size, 6, none⟩ (.slice s1 sn1 sm1)).setCell ⟨w.heap.size, 7, none⟩ (.slice s2 sn2 sm2)).setCell ⟨w.heap.size, 8, none⟩ (.slice s3 sn3 sm3) := ⟨_, rfl⟩
  rw [← hX2] at hp ⊢
  have hc : X2.heap[w.heap.size]? = some (.cells #[.int .i64 t.kd, .slice r0 t.path.length rm, .int .i64 t.pl, .string t.nm, .string t.tn, .int .i64 t.sh.kd, .slice s1 sn1 sm1, .slice s2 sn2 sm2, .slice s3 sn3 sm3, .int .i64 t.ws.kd, .slice q1 i1 j1, .slice q2 i2 j2, .slice q3 i3 j3] 33 (0, 0)) := by simpa only [List.setIfInBounds_toArray, List.set_cons_zero, List.set_cons_succ] using hp.1
  have hy := hp.2
  clear hp
  have OX2 := Lib.hid hy
  have A2x := Lib.hid hc
  have D2x := Lib.hid ((hy.block (w.heap.size + 1) (Array.getElem?_eq_some_iff.1 D2.out).1 (by simp)).trans D2.out)
  have B2x := Lib.hid (B2.out.trans (hy.below B2.out.size (by simp)))
  have Z2x := Lib.hid (Nat.le_trans Z2.out hy.size)
  clear hc hy hX2
  clear a5 f5 a6 f6 a7 f7 a8 f8
  go_cut [1] (fun x wc => x = .pointer (some ⟨w.heap.size, 0, none⟩) ∧ Hid (∃ v1 z1 h1 v2 z2 h2 v3 z3 h3 G3 w3, OwnSh w3 X2.heap.size t.ws (.agg #[.int .i64 t.ws.kd, .slice v1 z1 h1, .slice v2 z2 h2, .slice v3 z3 h3]) G3 ∧ G3.Nodup ∧ Below X2.heap.size X2 w3 ∧ Only [w.heap.size] w3 wc ∧ wc.heap[w.heap.size]? = some (.cells #[.int .i64 t.kd, .slice r0 t.path.length rm, .int .i64 t.pl, .string t.nm, .string t.tn, .int .i64 t.sh.kd, .slice s1 sn1 sm1, .slice s2 sn2 sm2, .slice s3 sn3 sm3, .int .i64 t.ws.kd, .slice v1 z1 h1, .slice v2 z2 h2, .slice v3 z3 h3] 33 (0, 0))))
  case first =>
    have a9 := cel A2x.out 9 rfl
    have f9 := frz_of A2x.out 9
    have a10 := cel A2x.out 10 rfl
    have f10 := frz_of A2x.out 10
    have a11 := cel A2x.out 11 rfl
    have f11 := frz_of A2x.out 11
    have a12 := cel A2x.out 12 rfl
    have f12 := frz_of A2x.out 12
    go_wp2_with fail
    refine (cpS C6.out _ X2 (IsSh.keep (Keeps.of_below B2x.out) _ _ H7.out)).mono ?_
    rintro e w3 ⟨c0, c1, c2, c3, G3, rfl, ho, hn, hb⟩
    obtain ⟨v1, z1, h1, v2, z2, h2, v3, z3, h3, rfl, rfl, rfl, rfl⟩ := (OwnSh.is _ _ _ ho).cells
    have O3 := Lib.hid ho
    have N3 := Lib.hid hn
    have S3 := Lib.hid hb
    have A3 := Lib.hid (blk_below A2x.out hb (Array.getElem?_eq_some_iff.1 A2x.out).1)
    clear ho hn hb a9 f9 a10 f10 a11 f11 a12 f12
    have a9 := cel A3.out 9 rfl
    have f9 := frz_of A3.out 9
    have a10 := cel A3.out 10 rfl
    have f10 := frz_of A3.out 10
    have a11 := cel A3.out 11 rfl
    have f11 := frz_of A3.out 11
    have a12 := cel A3.out 12 rfl
    have f12 := frz_of A3.out 12
    go_wp2_with fail
    have hp := put4s A3.out 9 10 11 12 (.int .i64 t.ws.kd) (.slice v1 z1 h1) (.slice v2 z2 h2) (.slice v3 z3 h3)
    go_meet
    exact ⟨rfl, _, _, _, _, _, _, _, _, _, _, _, O3.out, N3.out, S3.out, hp.2, show _ = some (Obj.cells #[.int .i64 t.kd, .slice r0 t.path.length rm, .int .i64 t.pl, .string t.nm, .string t.tn, .int .i64 t.sh.kd, .slice s1 sn1 sm1, .slice s2 sn2 sm2, .slice s3 sn3 sm3, .int .i64 t.ws.kd, .slice v1 z1 h1, .slice v2 z2 h2, .slice v3 z3 h3] 33 (0, 0)) from by simpa only [List.setIfInBounds_toArray, List.set_cons_zero, List.set_cons_succ] using hp.1⟩
  case rest =>
    rename World => W4
    obtain ⟨rfl, hc⟩ := hcut
    obtain ⟨v1, z1, h1, v2, z2, h2, v3, z3, h3, G3, w3, ho3, hn3, hb3, hy, hx⟩ := hc.out
    have E3 := blk_below D2x.out hb3 (Array.getElem?_eq_some_iff.1 D2x.out).1
    have E4 := Lib.hid ((hy.block (w.heap.size + 1) (Array.getElem?_eq_some_iff.1 E3).1 (by simp)).trans E3)
    have C4 := Lib.hid hx
    have O3 := Lib.hid ho3
    have N3 := Lib.hid hn3
    have HY := Lib.hid hy
    have P12 := Lib.hid (OX1.out.trans (Only.of_below S2.out))
    have P23 := Lib.hid (OX2.out.trans (Only.of_below hb3))
    clear hc E3 hx ho3 hn3 hy hb3
    have c0 := cel C4.out 0 rfl
    have d0 := cel E4.out 0 rfl
    have g0 := frz_of E4.out 0
    have c1 := cel C4.out 1 rfl
    have d1 := cel E4.out 1 rfl
    have g1 := frz_of E4.out 1
    have c2 := cel C4.out 2 rfl
    have d2 := cel E4.out 2 rfl
    have g2 := frz_of E4.out 2
    have c3 := cel C4.out 3 rfl
    have d3 := cel E4.out 3 rfl
    have g3 := frz_of E4.out 3
    have c4 := cel C4.out 4 rfl
    have d4 := cel E4.out 4 rfl
    have g4 := frz_of E4.out 4
    have c5 := cel C4.out 5 rfl
    have d5 := cel E4.out 5 rfl
    have g5 := frz_of E4.out 5
    have c6 := cel C4.out 6 rfl
    have d6 := cel E4.out 6 rfl
    have g6 := frz_of E4.out 6
    have c7 := cel C4.out 7 rfl
    have d7 := cel E4.out 7 rfl
    have g7 := frz_of E4.out 7
    have c8 := cel C4.out 8 rfl
    have d8 := cel E4.out 8 rfl
    have g8 := frz_of E4.out 8
    have c9 := cel C4.out 9 rfl
    have d9 := cel E4.out 9 rfl
    have g9 := frz_of E4.out 9
    have c10 := cel C4.out 10 rfl
    have d10 := cel E4.out 10 rfl
    have g10 := frz_of E4.out 10
    have c11 := cel C4.out 11 rfl
    have d11 := cel E4.out 11 rfl
    have g11 := frz_of E4.out 11
    have c12 := cel C4.out 12 rfl
    have d12 := cel E4.out 12 rfl
    have g12 := frz_of E4.out 12
    go_wp2_with fail
    refine bodyPost_ret (v := .agg #[.int .i64 t.kd, .slice r0 t.path.length rm, .int .i64 t.pl, .string t.nm, .string t.tn, .int .i64 t.sh.kd, .slice s1 sn1 sm1, .slice s2 sn2 sm2, .slice s3 sn3 sm3, .int .i64 t.ws.kd, .slice v1 z1 h1, .slice v2 z2 h2, .slice v3 z3 h3]) ?_ rfl ?_
    · simp [results, Tryd.results40, go_sem, d0, d1, d2, d3, d4, d5, d6, d7, d8, d9, d10, d11, d12]
    · exact ed_end (b1 := w.heap.size + 1) (b2 := w.heap.size) K1.out K2.out y3 y4 (by omega) (by have := WS.out; omega) (by have := WS.out; omega) (Nat.le_refl _) O1.out OX1.out.size P12.out O2.out N2.out OX2.out.size P23.out O3.out N3.out ((((((((((((((HY.out.mono (fun g hg => by simp at hg; simp [hg])).set (by simp) 0 _).set (by simp) 1 _).set (by simp) 2 _).set (by simp) 3 _).set (by simp) 4 _).set (by simp) 5 _).set (by simp) 6 _).set (by simp) 7 _).set (by simp) 8 _).set (by simp) 9 _).set (by simp) 10 _).set (by simp) 11 _).set (by simp) 12 _) B1.out B0.out.size Z1.out
end Go.Proofs.YtfdhmkmeffgkgaaDoor
