/- Walk: spec.l07Back. -/
import Derived.Test.YtfdhmkmeffgkgaaDoorGCpEdW
import Derived.Test.YtfdhmkmeffgkgaaDoorGUndA
namespace Go.Proofs.YtfdhmkmeffgkgaaDoor
open Go.RowKit

theorem rg_set {V : World} {b : Nat} {T : TypeId} {c0 c1 c2 c3 c4 c5 c6 c7 c8 c9 c10 c11 c12 : Value} (h : V.heap[b]? = some (.cells #[c0, c1, c2, c3, c4, c5, c6, c7, c8, c9, c10, c11, c12] T (0, 0))) (o : Obj) (x : Value) :
    ((V.setCell ⟨b, 0, none⟩ x).alloc o).heap[b]? = some (.cells #[x, c1, c2, c3, c4, c5, c6, c7, c8, c9, c10, c11, c12] T (0, 0)) ∧ Only [b] V ((V.setCell ⟨b, 0, none⟩ x).alloc o) := by
  have h1 := blk_set h 0 x
  have h0 := blk_below h1 (below_alloc _ o) (Array.getElem?_eq_some_iff.1 h1).1
  exact ⟨by simpa only [List.setIfInBounds_toArray, List.set_cons_zero, List.set_cons_succ] using h0, ((Only.refl [b] V).set (by simp) 0 x).trans (Only.of_below (below_alloc _ o))⟩

set_option maxRecDepth 100000 in
set_option maxHeartbeats 8000000 in
theorem l07Back_is (t : Ed) (v : Value) (w : World) (hok : edOk t = true) (h : IsEd w t v) :
    Calls Tryd.prog 25 #[v] w (EdPost (undoneR t) w) := by
  have HH := Lib.hid h
  obtain ⟨p0, m0, p1, n1, m1, p2, n2, m2, p3, n3, m3, q1, i1, j1, q2, i2, j2, q3, i3, j3, rfl, hk1, hk2, y3, y4, h5, h6, h7⟩ := h
  obtain ⟨⟨g1, g2⟩, ⟨s1, s2⟩, s3, s4, s5, s6⟩ := ed_small hok
  cases t with | mk kd path pl nm tn sh ws =>
  dsimp only at *
  obtain ⟨k, rfl⟩ : ∃ k : Nat, kd = (k : Int) := ⟨kd.toNat, by omega⟩
  obtain ⟨W, hW⟩ : ∃ W, W = (w.alloc (.cells #[.int .i64 (k : Int), .slice p0 path.length m0, .int .i64 pl, .string nm, .string tn, .int .i64 sh.kd, .slice p1 n1 m1, .slice p2 n2 m2, .slice p3 n3 m3, .int .i64 ws.kd, .slice q1 i1 j1, .slice q2 i2 j2, .slice q3 i3 j3] 33)).alloc (.cells #[.int .i64 0, .slice none 0 0, .int .i64 0, .string ⟨#[]⟩, .string ⟨#[]⟩, .int .i64 0, .slice none 0 0, .slice none 0 0, .slice none 0 0, .int .i64 0, .slice none 0 0, .slice none 0 0, .slice none 0 0] 33) := ⟨_, rfl⟩
  obtain ⟨x0, x1⟩ := two_new w (.cells #[.int .i64 (k : Int), .slice p0 path.length m0, .int .i64 pl, .string nm, .string tn, .int .i64 sh.kd, .slice p1 n1 m1, .slice p2 n2 m2, .slice p3 n3 m3, .int .i64 ws.kd, .slice q1 i1 j1, .slice q2 i2 j2, .slice q3 i3 j3] 33) (.cells #[.int .i64 0, .slice none 0 0, .int .i64 0, .string ⟨#[]⟩, .string ⟨#[]⟩, .int .i64 0, .slice none 0 0, .slice none 0 0, .slice none 0 0, .int .i64 0, .slice none 0 0, .slice none 0 0, .slice none 0 0] 33)
  have hb : Below w.heap.size w W := by rw [hW]; exact (below_alloc w _).alloc (by simp) _
  have hWs : W.heap.size = w.heap.size + 1 + 1 := by rw [hW]; simp
  rw [← hW] at x0 x1
  have A0 := Lib.hid x0
  have D0 := Lib.hid x1
  have B0 := Lib.hid hb
  have HW := Lib.hid hW
  have WS := Lib.hid hWs
  have K2 := Lib.hid hk2
  have H6 := Lib.hid h6
  have H7 := Lib.hid h7
  have C5 := Lib.hid s5
  have C6 := Lib.hid s6
  have P1 := Lib.hid s1
  have k1 : 1 ≤ k := by omega
  have k10 : k ≤ 10 := by omega
  clear x0 x1 hb hW hWs hk1 hk2 h5 h6 h7 s1 s2 s3 s4 s5 s6 hok g1 g2
  have a0 := cel A0.out 0 rfl
  have a1 := cel A0.out 1 rfl
  have a2 := cel A0.out 2 rfl
  have a3 := cel A0.out 3 rfl
  have a4 := cel A0.out 4 rfl
  have a5 := cel A0.out 5 rfl
  have a6 := cel A0.out 6 rfl
  have a7 := cel A0.out 7 rfl
  have a8 := cel A0.out 8 rfl
  have a9 := cel A0.out 9 rfl
  have a10 := cel A0.out 10 rfl
  have a11 := cel A0.out 11 rfl
  have a12 := cel A0.out 12 rfl
  go_enter Tryd.func25, Tryd.ntmps25
  go_wp2_with fail
  rw [← HW.out]
  refine (cpEd_is ⟨(k : Int), path, pl, nm, tn, sh, ws⟩ P1.out C5.out C6.out _ W (HH.out.keep (Keeps.of_below B0.out))).mono ?_
  rintro e w1 ⟨v1, F, rfl, ho, hn, hb1⟩
  obtain ⟨e0, l0, e1, u1, l1, e2, u2, l2, e3, u3, l3, v1, z1, h1, v2, z2, h2, v3, z3, h3, F1, F2, rfl, _, _, _, _, o1, o2, o3, rfl⟩ := ho
  dsimp only at o1 o2 o3 hn ⊢
  have A1 := Lib.hid (blk_below A0.out hb1 (Array.getElem?_eq_some_iff.1 A0.out).1)
  have D1 := Lib.hid (blk_below D0.out hb1 (Array.getElem?_eq_some_iff.1 D0.out).1)
  have B1 := Lib.hid (B0.out.trans (hb1.mono B0.out.size))
  have Z1 := Lib.hid hb1.size
  have O1 := Lib.hid o1
  have O2 := Lib.hid o2
  have O3 := Lib.hid o3
  have HN := Lib.hid hn
  clear hn hb1 o1 o2 o3 a0 a1 a2 a3 a4 a5 a6 a7 a8 a9 a10 a11 a12
  go_upto_region 2 with fail
  obtain ⟨V, hV⟩ : ∃ V, V = w1.alloc (.cells #[.int .i64 (k : Int), .slice e0 path.length l0, .int .i64 pl, .string nm, .string tn, .int .i64 sh.kd, .slice e1 u1 l1, .slice e2 u2 l2, .slice e3 u3 l3, .int .i64 ws.kd, .slice v1 z1 h1, .slice v2 z2 h2, .slice v3 z3 h3] 33) := ⟨_, rfl⟩
  have hbv := below_alloc w1 (.cells #[.int .i64 (k : Int), .slice e0 path.length l0, .int .i64 pl, .string nm, .string tn, .int .i64 sh.kd, .slice e1 u1 l1, .slice e2 u2 l2, .slice e3 u3 l3, .int .i64 ws.kd, .slice v1 z1 h1, .slice v2 z2 h2, .slice v3 z3 h3] 33)
  have hc := Go.Deep.blk_alloc_new w1 (.cells #[.int .i64 (k : Int), .slice e0 path.length l0, .int .i64 pl, .string nm, .string tn, .int .i64 sh.kd, .slice e1 u1 l1, .slice e2 u2 l2, .slice e3 u3 l3, .int .i64 ws.kd, .slice v1 z1 h1, .slice v2 z2 h2, .slice v3 z3 h3] 33)
  have hvs : V.heap.size = w1.heap.size + 1 := by rw [hV]; simp
  rw [← hV] at hbv hc ⊢
  have AV := Lib.hid (blk_below A1.out hbv (Array.getElem?_eq_some_iff.1 A1.out).1)
  have DV := Lib.hid (blk_below D1.out hbv (Array.getElem?_eq_some_iff.1 D1.out).1)
  have CV := Lib.hid hc
  have BV := Lib.hid (B1.out.trans (hbv.mono B1.out.size))
  have VS := Lib.hid hvs
  have HBV := Lib.hid hbv
  clear hbv hc hV hvs
  go_cut [3] (fun x wc => x = .pointer (some ⟨w1.heap.size, 0, none⟩) ∧ Hid (wc.heap[w1.heap.size]? = some (.cells #[.int .i64 (edBackK k), .slice e0 path.length l0, .int .i64 pl, .string nm, .string tn, .int .i64 sh.kd, .slice e1 u1 l1, .slice e2 u2 l2, .slice e3 u3 l3, .int .i64 ws.kd, .slice v1 z1 h1, .slice v2 z2 h2, .slice v3 z3 h3] 33 (0, 0)) ∧ Only [w1.heap.size] V wc))
  case first =>
    have a0 := cel AV.out 0 rfl
    have c0 := cel CV.out 0 rfl
    have f0 := frz_of CV.out 0
    have az : w.heap.size < V.heap.size := by have := VS.out; have := Z1.out; have := WS.out; omega
    have bz : w1.heap.size < V.heap.size := by have := VS.out; omega
    have hk : k = 1 ∨ k = 2 ∨ k = 3 ∨ k = 4 ∨ k = 5 ∨ k = 6 ∨ k = 7 ∨ k = 8 ∨ k = 9 ∨ k = 10 := by omega
    clear k1 k10
    rcases hk with rfl | rfl | rfl | rfl | rfl | rfl | rfl | rfl | rfl | rfl
    all_goals
      go_wp2_with fail
      go_meet
      exact ⟨rfl, rg_set CV.out _ _⟩
  case rest =>
    rename World => V2
    obtain ⟨rfl, hcc⟩ := hcut
    obtain ⟨hx, hy⟩ := hcc.out
    have CX := Lib.hid hx
    have AX := Lib.hid ((hy.block _ (Array.getElem?_eq_some_iff.1 AV.out).1 (by have := Z1.out; have := WS.out; simp; omega)).trans AV.out)
    have DX := Lib.hid ((hy.block _ (Array.getElem?_eq_some_iff.1 DV.out).1 (by have := Z1.out; have := WS.out; simp; omega)).trans DV.out)
    have BX := Lib.hid (BV.out.trans (hy.below BV.out.size (by simpa using B1.out.size)))
    have Q1 := Lib.hid (show OwnStrs V2 W.heap.size (.slice e0 path.length l0) path from ⟨O1.out.1, own_block O1.out.2 (fun g hg => (hy.block g (by have q := (blkOf_own O1.out.2 g hg); have := VS.out; omega) (by have q := (blkOf_own O1.out.2 g hg); simp; omega)).trans (HBV.out.block g (blkOf_own O1.out.2 g hg).2))⟩)
    have Q2 := Lib.hid (OwnSh.move (Nat.le_refl _) _ _ _ (fun g hg => (hy.block g (by have q := (OwnSh.blocks _ _ _ O2.out g hg); have := VS.out; omega) (by have q := (OwnSh.blocks _ _ _ O2.out g hg); simp; omega)).trans (HBV.out.block g (OwnSh.blocks _ _ _ O2.out g hg).2)) O2.out)
    have Q3 := Lib.hid (OwnSh.move (Nat.le_refl _) _ _ _ (fun g hg => (hy.block g (by have q := (OwnSh.blocks _ _ _ O3.out g hg); have := VS.out; omega) (by have q := (OwnSh.blocks _ _ _ O3.out g hg); simp; omega)).trans (HBV.out.block g (OwnSh.blocks _ _ _ O3.out g hg).2)) O3.out)
    have QN : Hid ((w1.heap.size :: (blkOf (.slice e0 path.length l0) ++ (F1 ++ F2))).Nodup) := List.nodup_cons.2 ⟨fun hm => (by
      rcases List.mem_append.1 hm with hm | hm
      · have q := blkOf_own O1.out.2 _ hm; omega
      · rcases List.mem_append.1 hm with hm | hm
        · have q := OwnSh.blocks _ _ _ O2.out _ hm; omega
        · have q := OwnSh.blocks _ _ _ O3.out _ hm; omega), HN.out⟩
    have ZX := Lib.hid hy.size
    have UB : Hid (W.heap.size ≤ w1.heap.size) := Z1.out
    clear hcc hx hy
    have a0 := cel AX.out 0 rfl
    have nbd : ¬ w1.heap.size = w.heap.size + 1 := by have := UB.out; have := WS.out; omega
    have ndb : ¬ w.heap.size + 1 = w1.heap.size := fun h => nbd h.symm
    have nab : ¬ w1.heap.size = w.heap.size := by have := UB.out; have := WS.out; omega
    have nba : ¬ w.heap.size = w1.heap.size := fun h => nab h.symm
    by_cases e3 : k = 3
    · have HU : Hid (undoneR ⟨(k : Int), path, pl, nm, tn, sh, ws⟩ = ⟨edBackK k, path, pl, tn, nm, sh, ws⟩) := by show _ = _; subst e3; rfl
      have b3 : ((k : Int) == 3) = true := by subst e3; rfl
      clear e3
      have a3 := cel AX.out 3 rfl
      have a4 := cel AX.out 4 rfl
      have c0 := cel CX.out 0 rfl
      have f0 := frz_of CX.out 0
      have c1 := cel CX.out 1 rfl
      have f1 := frz_of CX.out 1
      have c2 := cel CX.out 2 rfl
      have f2 := frz_of CX.out 2
      have c3 := cel CX.out 3 rfl
      have f3 := frz_of CX.out 3
      have c4 := cel CX.out 4 rfl
      have f4 := frz_of CX.out 4
      have c5 := cel CX.out 5 rfl
      have f5 := frz_of CX.out 5
      have c6 := cel CX.out 6 rfl
      have f6 := frz_of CX.out 6
      have c7 := cel CX.out 7 rfl
      have f7 := frz_of CX.out 7
      have c8 := cel CX.out 8 rfl
      have f8 := frz_of CX.out 8
      have c9 := cel CX.out 9 rfl
      have f9 := frz_of CX.out 9
      have c10 := cel CX.out 10 rfl
      have f10 := frz_of CX.out 10
      have c11 := cel CX.out 11 rfl
      have f11 := frz_of CX.out 11
      have c12 := cel CX.out 12 rfl
      have f12 := frz_of CX.out 12
      have d0 := cel DX.out 0 rfl
      have g0 := frz_of DX.out 0
      have d1 := cel DX.out 1 rfl
      have g1 := frz_of DX.out 1
      have d2 := cel DX.out 2 rfl
      have g2 := frz_of DX.out 2
      have d3 := cel DX.out 3 rfl
      have g3 := frz_of DX.out 3
      have d4 := cel DX.out 4 rfl
      have g4 := frz_of DX.out 4
      have d5 := cel DX.out 5 rfl
      have g5 := frz_of DX.out 5
      have d6 := cel DX.out 6 rfl
      have g6 := frz_of DX.out 6
      have d7 := cel DX.out 7 rfl
      have g7 := frz_of DX.out 7
      have d8 := cel DX.out 8 rfl
      have g8 := frz_of DX.out 8
      have d9 := cel DX.out 9 rfl
      have g9 := frz_of DX.out 9
      have d10 := cel DX.out 10 rfl
      have g10 := frz_of DX.out 10
      have d11 := cel DX.out 11 rfl
      have g11 := frz_of DX.out 11
      have d12 := cel DX.out 12 rfl
      have g12 := frz_of DX.out 12
      go_wp2_with fail
      refine bodyPost_ret (v := .agg #[.int .i64 (edBackK k), .slice e0 path.length l0, .int .i64 pl, .string tn, .string nm, .int .i64 sh.kd, .slice e1 u1 l1, .slice e2 u2 l2, .slice e3 u3 l3, .int .i64 ws.kd, .slice v1 z1 h1, .slice v2 z2 h2, .slice v3 z3 h3]) ?_ rfl ?_
      · simp [results, Tryd.results25, go_sem, d0, d1, d2, d3, d4, d5, d6, d7, d8, d9, d10, d11, d12]
      · rw [HU.out]
        exact ed_fin (d := w.heap.size + 1) (edBackK_in k) K2.out y4 y3 B0.out.size (by have := WS.out; omega) (by omega) UB.out Q1.out Q2.out Q3.out QN.out ((((((((((((((((Only.refl [w1.heap.size, w.heap.size + 1] V2).set (by simp) 3 _).set (by simp) 4 _).set (by simp) 0 _).set (by simp) 1 _).set (by simp) 2 _).set (by simp) 3 _).set (by simp) 4 _).set (by simp) 5 _).set (by simp) 6 _).set (by simp) 7 _).set (by simp) 8 _).set (by simp) 9 _).set (by simp) 10 _).set (by simp) 11 _).set (by simp) 12 _) BX.out
    have b3 : ((k : Int) == 3) = false := by rw [beq_eq_false_iff_ne]; omega
    by_cases e10 : k = 10
    · have HU : Hid (undoneR ⟨(k : Int), path, pl, nm, tn, sh, ws⟩ = ⟨edBackK k, path, pl, nm, tn, ws, sh⟩) := by show _ = _; subst e10; rfl
      have b10 : ((k : Int) == 10) = true := by subst e10; rfl
      clear e3 e10
      have a9 := cel AX.out 9 rfl
      have a10 := cel AX.out 10 rfl
      have a11 := cel AX.out 11 rfl
      have a12 := cel AX.out 12 rfl
      go_wp2_with fail
      refine (cpS C6.out _ V2 (IsSh.keep (Keeps.of_below BX.out) _ _ H7.out)).mono ?_
      rintro e w3 ⟨c0, c1, c2, c3, G3, rfl, ho, hn, hb⟩
      obtain ⟨s1, sn1, sm1, s2, sn2, sm2, s3, sn3, sm3, rfl, rfl, rfl, rfl⟩ := (OwnSh.is _ _ _ ho).cells
      have R3 := Lib.hid ho
      have N3 := Lib.hid hn
      have A3 := Lib.hid (blk_below AX.out hb (Array.getElem?_eq_some_iff.1 AX.out).1)
      have C3 := Lib.hid (blk_below CX.out hb (Array.getElem?_eq_some_iff.1 CX.out).1)
      have D3 := Lib.hid (blk_below DX.out hb (Array.getElem?_eq_some_iff.1 DX.out).1)
      have B3 := Lib.hid (BX.out.trans (hb.mono BX.out.size))
      have S1 := Lib.hid (Q1.out.block hb)
      have Z3 := Lib.hid hb.size
      clear ho hn hb a9 a10 a11 a12
      have a5 := cel A3.out 5 rfl
      have c5 := cel C3.out 5 rfl
      have f5 := frz_of C3.out 5
      have a6 := cel A3.out 6 rfl
      have c6 := cel C3.out 6 rfl
      have f6 := frz_of C3.out 6
      have a7 := cel A3.out 7 rfl
      have c7 := cel C3.out 7 rfl
      have f7 := frz_of C3.out 7
      have a8 := cel A3.out 8 rfl
      have c8 := cel C3.out 8 rfl
      have f8 := frz_of C3.out 8
      go_upto_region 9 with fail
      have hp := put4s C3.out 5 6 7 8 (.int .i64 ws.kd) (.slice s1 sn1 sm1) (.slice s2 sn2 sm2) (.slice s3 sn3 sm3)
      obtain ⟨X, hX⟩ : ∃ X, X = (((w3.setCell ⟨w1.heap.size, 5, none⟩ (.int .i64 ws.kd)).setCell ⟨w1.heap.size, 6, none⟩ (.slice s1 sn1 sm1)).setCell ⟨w1.heap.size, 7, none⟩ (.slice s2 sn2 sm2)).setCell ⟨w1.heap.size, 8, none⟩ (.slice s3 sn3 sm3) := ⟨_, rfl⟩
      rw [← hX] at hp ⊢
      have C4 : Hid (X.heap[w1.heap.size]? = some (.cells #[.int .i64 (edBackK k), .slice e0 path.length l0, .int .i64 pl, .string nm, .string tn, .int .i64 ws.kd, .slice s1 sn1 sm1, .slice s2 sn2 sm2, .slice s3 sn3 sm3, .int .i64 ws.kd, .slice v1 z1 h1, .slice v2 z2 h2, .slice v3 z3 h3] 33 (0, 0))) := by show _ = _; simpa only [List.setIfInBounds_toArray, List.set_cons_zero, List.set_cons_succ] using hp.1
      have hy := hp.2
      have A4 := Lib.hid ((hy.block _ (Array.getElem?_eq_some_iff.1 A3.out).1 (by simpa using nba)).trans A3.out)
      have D4 := Lib.hid ((hy.block _ (Array.getElem?_eq_some_iff.1 D3.out).1 (by simpa using ndb)).trans D3.out)
      have B4 := Lib.hid (B3.out.trans (hy.below B3.out.size (by simpa using B1.out.size)))
      have Z4 := Lib.hid hy.size
      have L1 : Hid (∀ g ∈ blkOf (.slice e0 path.length l0), g < w1.heap.size) := fun g hg => (blkOf_own O1.out.2 g hg).2
      have L3 : Hid (∀ g ∈ G3, V2.heap.size ≤ g ∧ g < w3.heap.size) := OwnSh.blocks _ _ _ R3.out
      have ZV : Hid (w1.heap.size < V2.heap.size) := by show _ < _; have := ZX.out; have := VS.out; omega
      have S1' := Lib.hid (show OwnStrs X W.heap.size (.slice e0 path.length l0) path from ⟨S1.out.1, own_block S1.out.2 fun g hg => hy.block g (blkOf_own S1.out.2 g hg).2 (by have := L1.out g hg; simp; omega)⟩)
      have R3' := Lib.hid (OwnSh.move (base' := W.heap.size) (by have := ZV.out; have := UB.out; omega) _ _ _ (fun g hg => hy.block g (OwnSh.blocks _ _ _ R3.out g hg).2 (by have := L3.out g hg; have := ZV.out; simp; omega)) R3.out)
      clear hp hy hX a5 a6 a7 a8 c5 c6 c7 c8 f5 f6 f7 f8
      have a5 := cel A4.out 5 rfl
      have a6 := cel A4.out 6 rfl
      have a7 := cel A4.out 7 rfl
      have a8 := cel A4.out 8 rfl
      go_wp2_with fail
      refine (cpS C5.out _ X (IsSh.keep (Keeps.of_below B4.out) _ _ H6.out)).mono ?_
      rintro e w5 ⟨c0, c1, c2, c3, G5, rfl, ho, hn, hb⟩
      obtain ⟨r1, rn1, rm1, r2, rn2, rm2, r3, rn3, rm3, rfl, rfl, rfl, rfl⟩ := (OwnSh.is _ _ _ ho).cells
      have N5 := Lib.hid hn
      have L5 : Hid (∀ g ∈ G5, X.heap.size ≤ g ∧ g < w5.heap.size) := OwnSh.blocks _ _ _ ho
      have C5' := Lib.hid (blk_below C4.out hb (Array.getElem?_eq_some_iff.1 C4.out).1)
      have D5 := Lib.hid (blk_below D4.out hb (Array.getElem?_eq_some_iff.1 D4.out).1)
      have B5 := Lib.hid (B4.out.trans (hb.mono B4.out.size))
      have T1 := Lib.hid (S1'.out.block hb)
      have T3 := Lib.hid (OwnSh.move (Nat.le_refl _) _ _ _ (fun g hg => hb.block g (OwnSh.blocks _ _ _ R3'.out g hg).2) R3'.out)
      have T5 := Lib.hid (OwnSh.move (base' := W.heap.size) (by have := ZV.out; have := UB.out; have := Z3.out; have := Z4.out; omega) _ _ _ (fun g _ => rfl) ho)
      clear ho hn hb a5 a6 a7 a8
      have QN' : Hid ((w1.heap.size :: (blkOf (.slice e0 path.length l0) ++ (G3 ++ G5))).Nodup) := (by
        have z3 := Z3.out; have z4 := Z4.out; have zv := ZV.out
        refine List.nodup_cons.2 ⟨fun hm => ?_, List.nodup_append.2 ⟨blk_nodup _ _ _, List.nodup_append.2 ⟨N3.out, N5.out, fun a ha c hc e => ?_⟩, fun a ha c hc e => ?_⟩⟩
        · rcases List.mem_append.1 hm with hm | hm
          · have q := L1.out _ hm; omega
          · rcases List.mem_append.1 hm with hm | hm
            · have q := L3.out _ hm; omega
            · have q := L5.out _ hm; omega
        · have q1 := L3.out a ha; have q2 := L5.out c hc; omega
        · have q1 := L1.out a ha
          rcases List.mem_append.1 hc with hc | hc
          · have q2 := L3.out c hc; omega
          · have q2 := L5.out c hc; omega)
      have c0 := cel C5'.out 0 rfl
      have f0 := frz_of C5'.out 0
      have c1 := cel C5'.out 1 rfl
      have f1 := frz_of C5'.out 1
      have c2 := cel C5'.out 2 rfl
      have f2 := frz_of C5'.out 2
      have c3 := cel C5'.out 3 rfl
      have f3 := frz_of C5'.out 3
      have c4 := cel C5'.out 4 rfl
      have f4 := frz_of C5'.out 4
      have c5 := cel C5'.out 5 rfl
      have f5 := frz_of C5'.out 5
      have c6 := cel C5'.out 6 rfl
      have f6 := frz_of C5'.out 6
      have c7 := cel C5'.out 7 rfl
      have f7 := frz_of C5'.out 7
      have c8 := cel C5'.out 8 rfl
      have f8 := frz_of C5'.out 8
      have c9 := cel C5'.out 9 rfl
      have f9 := frz_of C5'.out 9
      have c10 := cel C5'.out 10 rfl
      have f10 := frz_of C5'.out 10
      have c11 := cel C5'.out 11 rfl
      have f11 := frz_of C5'.out 11
      have c12 := cel C5'.out 12 rfl
      have f12 := frz_of C5'.out 12
      have d0 := cel D5.out 0 rfl
      have g0 := frz_of D5.out 0
      have d1 := cel D5.out 1 rfl
      have g1 := frz_of D5.out 1
      have d2 := cel D5.out 2 rfl
      have g2 := frz_of D5.out 2
      have d3 := cel D5.out 3 rfl
      have g3 := frz_of D5.out 3
      have d4 := cel D5.out 4 rfl
      have g4 := frz_of D5.out 4
      have d5 := cel D5.out 5 rfl
      have g5 := frz_of D5.out 5
      have d6 := cel D5.out 6 rfl
      have g6 := frz_of D5.out 6
      have d7 := cel D5.out 7 rfl
      have g7 := frz_of D5.out 7
      have d8 := cel D5.out 8 rfl
      have g8 := frz_of D5.out 8
      have d9 := cel D5.out 9 rfl
      have g9 := frz_of D5.out 9
      have d10 := cel D5.out 10 rfl
      have g10 := frz_of D5.out 10
      have d11 := cel D5.out 11 rfl
      have g11 := frz_of D5.out 11
      have d12 := cel D5.out 12 rfl
      have g12 := frz_of D5.out 12
      go_wp2_with fail
      refine bodyPost_ret (v := .agg #[.int .i64 (edBackK k), .slice e0 path.length l0, .int .i64 pl, .string nm, .string tn, .int .i64 ws.kd, .slice s1 sn1 sm1, .slice s2 sn2 sm2, .slice s3 sn3 sm3, .int .i64 sh.kd, .slice r1 rn1 rm1, .slice r2 rn2 rm2, .slice r3 rn3 rm3]) ?_ rfl ?_
      · simp [results, Tryd.results25, go_sem, d0, d1, d2, d3, d4, d5, d6, d7, d8, d9, d10, d11, d12]
      · rw [HU.out]
        exact ed_fin (d := w.heap.size + 1) (edBackK_in k) K2.out y3 y4 B0.out.size (by have := WS.out; omega) (by omega) UB.out T1.out T3.out T5.out QN'.out ((((((((((((((((((Only.refl [w1.heap.size, w.heap.size + 1] w5).set (by simp) 9 _).set (by simp) 10 _).set (by simp) 11 _).set (by simp) 12 _).set (by simp) 0 _).set (by simp) 1 _).set (by simp) 2 _).set (by simp) 3 _).set (by simp) 4 _).set (by simp) 5 _).set (by simp) 6 _).set (by simp) 7 _).set (by simp) 8 _).set (by simp) 9 _).set (by simp) 10 _).set (by simp) 11 _).set (by simp) 12 _) B5.out
    · have b10 : ((k : Int) == 10) = false := by rw [beq_eq_false_iff_ne]; omega
      have HU : Hid (undoneR ⟨(k : Int), path, pl, nm, tn, sh, ws⟩ = ⟨edBackK k, path, pl, nm, tn, sh, ws⟩) := by show _ = _; have n3 : ¬ (k : Int) = 3 := (by omega); have n10 : ¬ (k : Int) = 10 := (by omega); simp [undoneR, n3, n10]
      clear e3 e10
      have c0 := cel CX.out 0 rfl
      have f0 := frz_of CX.out 0
      have c1 := cel CX.out 1 rfl
      have f1 := frz_of CX.out 1
      have c2 := cel CX.out 2 rfl
      have f2 := frz_of CX.out 2
      have c3 := cel CX.out 3 rfl
      have f3 := frz_of CX.out 3
      have c4 := cel CX.out 4 rfl
      have f4 := frz_of CX.out 4
      have c5 := cel CX.out 5 rfl
      have f5 := frz_of CX.out 5
      have c6 := cel CX.out 6 rfl
      have f6 := frz_of CX.out 6
      have c7 := cel CX.out 7 rfl
      have f7 := frz_of CX.out 7
      have c8 := cel CX.out 8 rfl
      have f8 := frz_of CX.out 8
      have c9 := cel CX.out 9 rfl
      have f9 := frz_of CX.out 9
      have c10 := cel CX.out 10 rfl
      have f10 := frz_of CX.out 10
      have c11 := cel CX.out 11 rfl
      have f11 := frz_of CX.out 11
      have c12 := cel CX.out 12 rfl
      have f12 := frz_of CX.out 12
      have d0 := cel DX.out 0 rfl
      have g0 := frz_of DX.out 0
      have d1 := cel DX.out 1 rfl
      have g1 := frz_of DX.out 1
      have d2 := cel DX.out 2 rfl
      have g2 := frz_of DX.out 2
      have d3 := cel DX.out 3 rfl
      have g3 := frz_of DX.out 3
      have d4 := cel DX.out 4 rfl
      have g4 := frz_of DX.out 4
      have d5 := cel DX.out 5 rfl
      have g5 := frz_of DX.out 5
      have d6 := cel DX.out 6 rfl
      have g6 := frz_of DX.out 6
      have d7 := cel DX.out 7 rfl
      have g7 := frz_of DX.out 7
      have d8 := cel DX.out 8 rfl
      have g8 := frz_of DX.out 8
      have d9 := cel DX.out 9 rfl
      have g9 := frz_of DX.out 9
      have d10 := cel DX.out 10 rfl
      have g10 := frz_of DX.out 10
      have d11 := cel DX.out 11 rfl
      have g11 := frz_of DX.out 11
      have d12 := cel DX.out 12 rfl
      have g12 := frz_of DX.out 12
      go_wp2_with fail
      refine bodyPost_ret (v := .agg #[.int .i64 (edBackK k), .slice e0 path.length l0, .int .i64 pl, .string nm, .string tn, .int .i64 sh.kd, .slice e1 u1 l1, .slice e2 u2 l2, .slice e3 u3 l3, .int .i64 ws.kd, .slice v1 z1 h1, .slice v2 z2 h2, .slice v3 z3 h3]) ?_ rfl ?_
      · simp [results, Tryd.results25, go_sem, d0, d1, d2, d3, d4, d5, d6, d7, d8, d9, d10, d11, d12]
      · rw [HU.out]
        exact ed_fin (d := w.heap.size + 1) (edBackK_in k) K2.out y3 y4 B0.out.size (by have := WS.out; omega) (by omega) UB.out Q1.out Q2.out Q3.out QN.out ((((((((((((((Only.refl [w1.heap.size, w.heap.size + 1] V2).set (by simp) 0 _).set (by simp) 1 _).set (by simp) 2 _).set (by simp) 3 _).set (by simp) 4 _).set (by simp) 5 _).set (by simp) 6 _).set (by simp) 7 _).set (by simp) 8 _).set (by simp) 9 _).set (by simp) 10 _).set (by simp) 11 _).set (by simp) 12 _) BX.out
end Go.Proofs.YtfdhmkmeffgkgaaDoor
