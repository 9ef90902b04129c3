/- Walks: spec.l04Unpack at a list. · Walks: spec.l04Unpack at a record. · Walks: spec.l04Unpack at any right shape; spec.Unpack. · Walks: spec.Unpack. -/
import Derived.Test.YtphiljhdonnpmaaGreatDoorHSuC
import Derived.Test.YtphiljhdonnpmaaGreatDoorHUnD
namespace Go.Proofs.YtphiljhdonnpmaaGreatDoor
open Go.RowKit

theorem Mid.bad {w w5 : World} {k n : Int} {t : ByteArray} (h : Mid w w5 k n t) (k5 n5 : Int) (t5 : ByteArray) (q5 : Option Addr) (l5 m5 : Nat) (c : Int) (o : Obj) :
    ((putU w5 (w.heap.size + 1) k5 n5 t5 (.slice q5 l5 m5) 0 c).alloc o).heap[w.heap.size + 1]? = some (.cells #[.int .i64 k5, .int .i64 n5, .string t5, .slice q5 l5 m5, .int .i64 0, .int .i64 c] 44 (0, 0)) := by
  have h2 := putU_same h.out k5 n5 t5 (.slice q5 l5 m5) 0 c
  exact blk_below h2 (below_alloc _ o) (Array.getElem?_eq_some_iff.1 h2).1
theorem Mid.end_bad {w w5 wz : World} {k n : Int} {t : ByteArray} (h : Mid w w5 k n t) {x : Va} {k5 n5 : Int} {t5 : ByteArray} {q5 : Option Addr} {l5 m5 : Nat} {F : List Nat} (ho : OwnVa w5 wz.heap.size x (.agg #[.int .i64 k5, .int .i64 n5, .string t5, .slice q5 l5 m5]) F) (hn : F.Nodup) (hz : w.heap.size + 1 + 1 < wz.heap.size) (c : Int) (o : Obj) :
    UnpPost w (x, 0, c) (.returned (.agg #[.int .i64 k5, .int .i64 n5, .string t5, .slice q5 l5 m5, .int .i64 0, .int .i64 c])) ((putU w5 (w.heap.size + 1) k5 n5 t5 (.slice q5 l5 m5) 0 c).alloc o) := by
  have hF : ∀ g ∈ F, w.heap.size + 1 + 1 < g := fun g hg => by have := (OwnVa.blocks _ _ _ ho g hg).1; omega
  exact UnpPost.grow (unp_end h.below (ho.move' (by omega)) (fun g hg => by have := hF g hg; omega) hn) (below_alloc _ o)

set_option maxRecDepth 100000 in
set_option maxHeartbeats 4000000 in
theorem su_items5 (d : Nat) (ih : SuAt d) (y : Sh) (hy : partOk d y = true) (p1 p2 p3 : Option Addr) (n1 n2 m1 m2 m3 : Nat) (hn1 : n1 ≤ 6) (bs : ByteArray) (p : Int) (w : World) (h8 : bs.size ≤ 8000) (h0 : 0 ≤ p) (h1 : p ≤ bs.size) (hsu : IsShs w (.slice p3 1 m3) [y]) :
    Calls Tryz.prog 60 #[.agg #[.int .i64 5, .slice p1 n1 m1, .slice p2 n2 m2, .slice p3 1 m3], .string bs, .int .i64 p] w
      (UnpPost w (if (readN bs p 1).2.2 ≠ 0 then (zeroVa, 0, (readN bs p 1).2.2) else itemsU 5 (seqU (List.replicate (readN bs p 1).1.toNat (unB bs y)) (readN bs p 1).2.1))) := by
  obtain ⟨⟨n, q, c⟩, hX⟩ : ∃ X : Int × Int × Int, getRes bs p = X := ⟨_, rfl⟩
  have HNm := Lib.hid (num_parts bs p n q c h8 h0 h1 hX)
  rw [readN_parts hX]
  have hq : c = 0 → 0 ≤ q ∧ q ≤ bs.size := fun hc => by have := res_place (s := bs) (p := p) (by rw [hX]; exact hc); rw [hX] at this; exact this
  obtain ⟨r, hr⟩ : ∃ r : UnR, (if (if c ≠ 0 then ((0 : Int), (0 : Int), c) else if n < 0 ∨ 1 < n then (0, 0, 3) else (n, q, 0)).2.2 ≠ 0 then (zeroVa, (0 : Int), (if c ≠ 0 then ((0 : Int), (0 : Int), c) else if n < 0 ∨ 1 < n then (0, 0, 3) else (n, q, 0)).2.2) else itemsU 5 (seqU (List.replicate (if c ≠ 0 then ((0 : Int), (0 : Int), c) else if n < 0 ∨ 1 < n then (0, 0, 3) else (n, q, 0)).1.toNat (unB bs y)) (if c ≠ 0 then ((0 : Int), (0 : Int), c) else if n < 0 ∨ 1 < n then (0, 0, 3) else (n, q, 0)).2.1)) = r := ⟨_, rfl⟩
  rw [hr]
  have HR := Lib.hid hr
  have HSu := Lib.hid hsu
  have HY := Lib.hid hy
  have IH := Lib.hid ih
  obtain ⟨W, hW⟩ : ∃ W, W = (((w.alloc (.cells #[.int .i64 5, .slice p1 n1 m1, .slice p2 n2 m2, .slice p3 1 m3] 34)).alloc (.cells #[.int .i64 0, .int .i64 0, .string ⟨#[]⟩, .slice none 0 0, .int .i64 0, .int .i64 0] 44)).alloc (.cells #[.int .i64 5, .int .i64 0, .string ⟨#[]⟩, .slice none 0 0] 38)) := ⟨_, rfl⟩
  have hT := three_at w 5 p1 p2 p3 n1 n2 1 m1 m2 m3
  rw [← hW] at hT
  have HT := Lib.hid hT
  have HW := Lib.hid hW
  have HQ := Lib.hid hq
  clear hX hr hT hW h0 h1 hq ih hsu hy
  have hw1 : IntKind.i64.wrap ((n1 : Int) - 1) = (n1 : Int) - 1 := IntWalk.i64_in _ (by omega)
  obtain ⟨a0, a1, a2, a3, _, _, _, _, az⟩ := blk4 HT.out.sh
  obtain ⟨_, _, _, _, _, _, _, _, _, _, _, _, bz⟩ := blk6 HT.out.out
  obtain ⟨d0, d1, d2, d3, _, _, _, _, dz⟩ := blk4 HT.out.va
  go_enter Tryz.func60, Tryz.ntmps60
  go_wp2_with fail
  rw [← HW.out]
  refine (HNm.out W).mono ?_
  rintro e w1 ⟨rfl, hb1⟩
  have T1 := Lib.hid (HT.out.later hb1)
  have B1 := Lib.hid T1.out.below
  have HBA := Lib.hid (below_alloc w1)
  have HBB := Lib.hid (fun o1 o2 => (below_alloc w1 o1).alloc (by simp) o2)
  clear hb1 a0 a1 a2 a3 az bz d0 d1 d2 d3 dz
  obtain ⟨a0, a1, a2, a3, _, _, _, _, az⟩ := blk4 T1.out.sh
  obtain ⟨_, _, _, _, _, _, _, _, _, _, _, _, bz⟩ := blk6 T1.out.out
  obtain ⟨d0, d1, d2, d3, e0, e1, e2, e3, dz⟩ := blk4 T1.out.va
  by_cases hc : c = 0
  · subst hc
    by_cases hn0 : 0 ≤ n
    · by_cases hn1' : n ≤ 1
      · obtain ⟨jj, rfl⟩ := Int.eq_ofNat_of_zero_le hn0
        have hj6 : jj ≤ 6 := by omega
        go_wp2_with fail
        refine (l02Is_any jj 0 1 _).mono ?_
        rintro e w' ⟨rfl, rfl⟩
        rw [decide_eq_true hn0, decide_eq_true hn1']
        go_wp2_with fail
        obtain ⟨wz, hwz⟩ : ∃ wz, wz = (w1.alloc (.cells #[.int .i64 jj, .int .i64 q, .int .i64 0] 130)).alloc (.cells #[.int .i64 0, .int .i64 1, .int .i64 1000000, .int .i64 0, .int .i64 ((n1 : Int) - 1), .int .i64 1, .int .i64 6] 2) := ⟨_, rfl⟩
        have hM : Mid w wz 5 0 ⟨#[]⟩ := by rw [hwz]; exact (T1.out.mid.alloc _).alloc _
        rw [← hwz]
        have HM := Lib.hid hM
        clear hM hwz a0 a1 a2 a3 d0 d1 d2 d3 e0 e1 e2 e3 az bz dz
        have HQ' : Hid (0 ≤ q ∧ q ≤ bs.size) := HQ.out (by first | rfl | trivial)
        have hg : ∀ i (h : i < (List.replicate jj (unB bs y)).length), ∃ (j : Nat) (hj : j < [y].length), (if (i : Int) < ([y].length : Int) - 1 then (i : Int) else ([y].length : Int) - 1) = j ∧ (List.replicate jj (unB bs y))[i] = unB bs [y][j] := by
          intro i h
          refine ⟨0, by simp, ?_, by simp⟩
          rw [if_neg (by first | (simp; done) | (simp; omega))]; simp
        refine (items_any d IH.out [y] (by simp [HY.out]) p3 m3 jj bs q wz (List.replicate jj (unB bs y)) (by simp) hj6 (by simp) hg h8 HQ'.out.1 HQ'.out.2 (HSu.out.keep (Keeps.of_below HM.out.below))).mono ?_
        obtain ⟨R, hR⟩ : ∃ R, seqU (List.replicate jj (unB bs y)) q = R := ⟨_, rfl⟩
        have HRR := Lib.hid hR
        rw [hR]
        clear hR hg
        rintro e w5 ⟨k5, n5, t5, q5, l5, m5, F5, rfl, ho5, hn5, hb5⟩
        have M5 := Lib.hid (HM.out.later hb5)
        have HO5 := Lib.hid ho5
        have HZ5 : Hid (w.heap.size + 1 + 1 < wz.heap.size) := (Array.getElem?_eq_some_iff.1 HM.out.va).1
        clear hb5 ho5
        have e0' : r = itemsU 5 R := by rw [← HR.out, if_neg (show ¬ ((0 : Int) ≠ 0) by simp), if_neg (show ¬ ((jj : Int) < 0 ∨ 1 < (jj : Int)) by omega), if_neg (by simp)]; simp only [Int.toNat_natCast]; rw [HRR.out]
        by_cases hc2 : R.2.2 = 0
        · have eX : itemsU 0 R = (.mk 0 0 ⟨#[]⟩ R.1, R.2.1, 0) := by unfold itemsU; rw [if_neg (fun h => h hc2)]
          have e1 : r = (.mk 5 0 ⟨#[]⟩ R.1, R.2.1, 0) := by rw [e0']; unfold itemsU; rw [if_neg (fun h => h hc2)]
          rw [eX] at HO5 ⊢
          clear e0' eX
          obtain ⟨b0, b1, b2, b3, b4, b5, f0, f1, f2, f3, f4, f5, bz⟩ := blk6 M5.out.out
          obtain ⟨d0, d1, d2, d3, e0, e1, e2, e3, dz⟩ := blk4 M5.out.va
          go_wp2_with fail
          have HF := Lib.hid (M5.out.fin q5 l5 m5 R.2.1 (.cells #[.int .i64 5, .int .i64 0, .string ⟨#[]⟩, .slice q5 l5 m5, .int .i64 R.2.1, .int .i64 0] 44))
          have HE := Lib.hid (M5.out.end HO5.out hn5 HZ5.out (by unfold InI64'; omega) (by unfold InI64'; omega) (by decide) R.2.1 (.cells #[.int .i64 5, .int .i64 0, .string ⟨#[]⟩, .slice q5 l5 m5, .int .i64 R.2.1, .int .i64 0] 44))
          unfold putU putV at HF HE
          clear b0 b1 b2 b3 b4 b5 f0 f1 f2 f3 f4 f5 bz d0 d1 d2 d3 e0 e1 e2 e3 dz
          obtain ⟨b0, b1, b2, b3, b4, b5, f0, f1, f2, f3, f4, f5, bz⟩ := blk6 HF.out
          refine bodyPost_ret (v := .agg #[.int .i64 5, .int .i64 0, .string ⟨#[]⟩, .slice q5 l5 m5, .int .i64 R.2.1, .int .i64 0]) (by simp [results, Tryz.results60, go_sem, b0, b1, b2, b3, b4, b5]) rfl ?_
        
          rw [e1]
          exact HE.out
        · obtain ⟨c2, hcc⟩ : ∃ c2, R.2.2 = c2 := ⟨_, rfl⟩
          rw [hcc] at hc2
          have eX : itemsU 0 R = (zeroVa, 0, c2) := by unfold itemsU; rw [hcc, if_pos hc2]
          have e1 : r = (zeroVa, 0, c2) := by rw [e0']; unfold itemsU; rw [hcc, if_pos hc2]
          rw [eX] at HO5 ⊢
          clear e0' eX hcc
          obtain ⟨b0, b1, b2, b3, b4, b5, f0, f1, f2, f3, f4, f5, bz⟩ := blk6 M5.out.out
          go_wp2_with fail
          have HF := Lib.hid (M5.out.bad k5 n5 t5 q5 l5 m5 c2 (.cells #[.int .i64 k5, .int .i64 n5, .string t5, .slice q5 l5 m5, .int .i64 0, .int .i64 c2] 44))
          have HE := Lib.hid (M5.out.end_bad HO5.out hn5 HZ5.out c2 (.cells #[.int .i64 k5, .int .i64 n5, .string t5, .slice q5 l5 m5, .int .i64 0, .int .i64 c2] 44))
          unfold putU putV at HF HE
          clear b0 b1 b2 b3 b4 b5 f0 f1 f2 f3 f4 f5 bz
          obtain ⟨b0, b1, b2, b3, b4, b5, f0, f1, f2, f3, f4, f5, bz⟩ := blk6 HF.out
          refine bodyPost_ret (v := .agg #[.int .i64 k5, .int .i64 n5, .string t5, .slice q5 l5 m5, .int .i64 0, .int .i64 c2]) (by simp [results, Tryz.results60, go_sem, b0, b1, b2, b3, b4, b5]) rfl ?_
          rw [e1]
          exact HE.out
      · have e1 : r = (zeroVa, 0, 3) := by rw [← HR.out]; simp [show (n < 0 ∨ 1 < n) by omega]
        go_wp2_with fail
        refine (l02Is_any n 0 1 _).mono ?_
        rintro e w' ⟨rfl, rfl⟩
        rw [decide_eq_true hn0, decide_eq_false (p := n ≤ 1) (by omega)]
        go_wp2_with fail
        refine (ill_any 3 _).mono ?_
        rintro e w4 ⟨rfl, hb4⟩
        have B4 := Lib.hid (B1.out.trans (((HBB.out _ _).trans (hb4.mono (by simp; omega))).mono B1.out.size))
        have D2 := blk_below T1.out.out ((HBB.out _ _).trans (hb4.mono (by simp; omega))) bz
        obtain ⟨x0, x1, x2, x3, x4, x5, v0, v1, v2, v3, v4, v5, xz⟩ := blk6 D2
        clear hb4 D2
        go_wp2_with fail
        refine bodyPost_ret (v := .agg #[.int .i64 0, .int .i64 0, .string ⟨#[]⟩, .slice none 0 0, .int .i64 0, .int .i64 3]) (by simp [results, Tryz.results60, go_sem, x0, x1, x2, x3, x4, x5]) rfl ?_
        rw [e1]
        exact unp_end B4.out (own_zero _ _) (by simp) List.nodup_nil
    · have e1 : r = (zeroVa, 0, 3) := by rw [← HR.out]; simp [show (n < 0 ∨ 1 < n) by omega]
      go_wp2_with fail
      refine (l02Is_any n 0 1 _).mono ?_
      rintro e w' ⟨rfl, rfl⟩
      rw [decide_eq_false (p := 0 ≤ n) (by omega)]
      go_wp2_with fail
      refine (ill_any 3 _).mono ?_
      rintro e w4 ⟨rfl, hb4⟩
      have B4 := Lib.hid (B1.out.trans (((HBB.out _ _).trans (hb4.mono (by simp; omega))).mono B1.out.size))
      have D2 := blk_below T1.out.out ((HBB.out _ _).trans (hb4.mono (by simp; omega))) bz
      obtain ⟨x0, x1, x2, x3, x4, x5, v0, v1, v2, v3, v4, v5, xz⟩ := blk6 D2
      clear hb4 D2
      go_wp2_with fail
      refine bodyPost_ret (v := .agg #[.int .i64 0, .int .i64 0, .string ⟨#[]⟩, .slice none 0 0, .int .i64 0, .int .i64 3]) (by simp [results, Tryz.results60, go_sem, x0, x1, x2, x3, x4, x5]) rfl ?_
      rw [e1]
      exact unp_end B4.out (own_zero _ _) (by simp) List.nodup_nil
  · have e1 : r = (zeroVa, 0, c) := by rw [← HR.out]; simp [hc]
    go_wp2_with fail
    refine (ill_any c _).mono ?_
    rintro e w4 ⟨rfl, hb4⟩
    have B4 := Lib.hid (B1.out.trans (((HBA.out _).trans (hb4.mono (by simp))).mono B1.out.size))
    have D2 := blk_below T1.out.out ((HBA.out _).trans (hb4.mono (by simp))) bz
    obtain ⟨x0, x1, x2, x3, x4, x5, v0, v1, v2, v3, v4, v5, xz⟩ := blk6 D2
    clear hb4 D2
    go_wp2_with fail
    refine bodyPost_ret (v := .agg #[.int .i64 0, .int .i64 0, .string ⟨#[]⟩, .slice none 0 0, .int .i64 0, .int .i64 c]) (by simp [results, Tryz.results60, go_sem, x0, x1, x2, x3, x4, x5]) rfl ?_
    rw [e1]
    exact unp_end B4.out (own_zero _ _) (by simp) List.nodup_nil
set_option maxRecDepth 100000 in
set_option maxHeartbeats 4000000 in
theorem su_items6 (d : Nat) (ih : SuAt d) (y : Sh) (hy : partOk d y = true) (p1 p2 p3 : Option Addr) (n1 n2 m1 m2 m3 : Nat) (hn1 : n1 ≤ 6) (bs : ByteArray) (p : Int) (w : World) (h8 : bs.size ≤ 8000) (h0 : 0 ≤ p) (h1 : p ≤ bs.size) (hsu : IsShs w (.slice p3 1 m3) [y]) :
    Calls Tryz.prog 60 #[.agg #[.int .i64 6, .slice p1 n1 m1, .slice p2 n2 m2, .slice p3 1 m3], .string bs, .int .i64 p] w
      (UnpPost w (if (readN bs p 6).2.2 ≠ 0 then (zeroVa, 0, (readN bs p 6).2.2) else itemsU 6 (seqU (List.replicate (readN bs p 6).1.toNat (unB bs y)) (readN bs p 6).2.1))) := by
  obtain ⟨⟨n, q, c⟩, hX⟩ : ∃ X : Int × Int × Int, getRes bs p = X := ⟨_, rfl⟩
  have HNm := Lib.hid (num_parts bs p n q c h8 h0 h1 hX)
  rw [readN_parts hX]
  have hq : c = 0 → 0 ≤ q ∧ q ≤ bs.size := fun hc => by have := res_place (s := bs) (p := p) (by rw [hX]; exact hc); rw [hX] at this; exact this
  obtain ⟨r, hr⟩ : ∃ r : UnR, (if (if c ≠ 0 then ((0 : Int), (0 : Int), c) else if n < 0 ∨ 6 < n then (0, 0, 3) else (n, q, 0)).2.2 ≠ 0 then (zeroVa, (0 : Int), (if c ≠ 0 then ((0 : Int), (0 : Int), c) else if n < 0 ∨ 6 < n then (0, 0, 3) else (n, q, 0)).2.2) else itemsU 6 (seqU (List.replicate (if c ≠ 0 then ((0 : Int), (0 : Int), c) else if n < 0 ∨ 6 < n then (0, 0, 3) else (n, q, 0)).1.toNat (unB bs y)) (if c ≠ 0 then ((0 : Int), (0 : Int), c) else if n < 0 ∨ 6 < n then (0, 0, 3) else (n, q, 0)).2.1)) = r := ⟨_, rfl⟩
  rw [hr]
  have HR := Lib.hid hr
  have HSu := Lib.hid hsu
  have HY := Lib.hid hy
  have IH := Lib.hid ih
  obtain ⟨W, hW⟩ : ∃ W, W = (((w.alloc (.cells #[.int .i64 6, .slice p1 n1 m1, .slice p2 n2 m2, .slice p3 1 m3] 34)).alloc (.cells #[.int .i64 0, .int .i64 0, .string ⟨#[]⟩, .slice none 0 0, .int .i64 0, .int .i64 0] 44)).alloc (.cells #[.int .i64 6, .int .i64 0, .string ⟨#[]⟩, .slice none 0 0] 38)) := ⟨_, rfl⟩
  have hT := three_at w 6 p1 p2 p3 n1 n2 1 m1 m2 m3
  rw [← hW] at hT
  have HT := Lib.hid hT
  have HW := Lib.hid hW
  have HQ := Lib.hid hq
  clear hX hr hT hW h0 h1 hq ih hsu hy
  have hw1 : IntKind.i64.wrap ((n1 : Int) - 1) = (n1 : Int) - 1 := IntWalk.i64_in _ (by omega)
  obtain ⟨a0, a1, a2, a3, _, _, _, _, az⟩ := blk4 HT.out.sh
  obtain ⟨_, _, _, _, _, _, _, _, _, _, _, _, bz⟩ := blk6 HT.out.out
  obtain ⟨d0, d1, d2, d3, _, _, _, _, dz⟩ := blk4 HT.out.va
  go_enter Tryz.func60, Tryz.ntmps60
  go_wp2_with fail
  rw [← HW.out]
  refine (HNm.out W).mono ?_
  rintro e w1 ⟨rfl, hb1⟩
  have T1 := Lib.hid (HT.out.later hb1)
  have B1 := Lib.hid T1.out.below
  have HBA := Lib.hid (below_alloc w1)
  have HBB := Lib.hid (fun o1 o2 => (below_alloc w1 o1).alloc (by simp) o2)
  clear hb1 a0 a1 a2 a3 az bz d0 d1 d2 d3 dz
  obtain ⟨a0, a1, a2, a3, _, _, _, _, az⟩ := blk4 T1.out.sh
  obtain ⟨_, _, _, _, _, _, _, _, _, _, _, _, bz⟩ := blk6 T1.out.out
  obtain ⟨d0, d1, d2, d3, e0, e1, e2, e3, dz⟩ := blk4 T1.out.va
  by_cases hc : c = 0
  · subst hc
    by_cases hn0 : 0 ≤ n
    · by_cases hn1' : n ≤ 6
      · obtain ⟨jj, rfl⟩ := Int.eq_ofNat_of_zero_le hn0
        have hj6 : jj ≤ 6 := by omega
        go_wp2_with fail
        refine (l02Is_any jj 0 6 _).mono ?_
        rintro e w' ⟨rfl, rfl⟩
        rw [decide_eq_true hn0, decide_eq_true hn1']
        go_wp2_with fail
        obtain ⟨wz, hwz⟩ : ∃ wz, wz = (w1.alloc (.cells #[.int .i64 jj, .int .i64 q, .int .i64 0] 130)).alloc (.cells #[.int .i64 0, .int .i64 1, .int .i64 1000000, .int .i64 0, .int .i64 ((n1 : Int) - 1), .int .i64 1, .int .i64 6] 2) := ⟨_, rfl⟩
        have hM : Mid w wz 6 0 ⟨#[]⟩ := by rw [hwz]; exact (T1.out.mid.alloc _).alloc _
        rw [← hwz]
        have HM := Lib.hid hM
        clear hM hwz a0 a1 a2 a3 d0 d1 d2 d3 e0 e1 e2 e3 az bz dz
        have HQ' : Hid (0 ≤ q ∧ q ≤ bs.size) := HQ.out (by first | rfl | trivial)
        have hg : ∀ i (h : i < (List.replicate jj (unB bs y)).length), ∃ (j : Nat) (hj : j < [y].length), (if (i : Int) < ([y].length : Int) - 1 then (i : Int) else ([y].length : Int) - 1) = j ∧ (List.replicate jj (unB bs y))[i] = unB bs [y][j] := by
          intro i h
          refine ⟨0, by simp, ?_, by simp⟩
          rw [if_neg (by first | (simp; done) | (simp; omega))]; simp
        refine (items_any d IH.out [y] (by simp [HY.out]) p3 m3 jj bs q wz (List.replicate jj (unB bs y)) (by simp) hj6 (by simp) hg h8 HQ'.out.1 HQ'.out.2 (HSu.out.keep (Keeps.of_below HM.out.below))).mono ?_
        obtain ⟨R, hR⟩ : ∃ R, seqU (List.replicate jj (unB bs y)) q = R := ⟨_, rfl⟩
        have HRR := Lib.hid hR
        rw [hR]
        clear hR hg
        rintro e w5 ⟨k5, n5, t5, q5, l5, m5, F5, rfl, ho5, hn5, hb5⟩
        have M5 := Lib.hid (HM.out.later hb5)
        have HO5 := Lib.hid ho5
        have HZ5 : Hid (w.heap.size + 1 + 1 < wz.heap.size) := (Array.getElem?_eq_some_iff.1 HM.out.va).1
        clear hb5 ho5
        have e0' : r = itemsU 6 R := by rw [← HR.out, if_neg (show ¬ ((0 : Int) ≠ 0) by simp), if_neg (show ¬ ((jj : Int) < 0 ∨ 6 < (jj : Int)) by omega), if_neg (by simp)]; simp only [Int.toNat_natCast]; rw [HRR.out]
        by_cases hc2 : R.2.2 = 0
        · have eX : itemsU 0 R = (.mk 0 0 ⟨#[]⟩ R.1, R.2.1, 0) := by unfold itemsU; rw [if_neg (fun h => h hc2)]
          have e1 : r = (.mk 6 0 ⟨#[]⟩ R.1, R.2.1, 0) := by rw [e0']; unfold itemsU; rw [if_neg (fun h => h hc2)]
          rw [eX] at HO5 ⊢
          clear e0' eX
          obtain ⟨b0, b1, b2, b3, b4, b5, f0, f1, f2, f3, f4, f5, bz⟩ := blk6 M5.out.out
          obtain ⟨d0, d1, d2, d3, e0, e1, e2, e3, dz⟩ := blk4 M5.out.va
          go_wp2_with fail
          have HF := Lib.hid (M5.out.fin q5 l5 m5 R.2.1 (.cells #[.int .i64 6, .int .i64 0, .string ⟨#[]⟩, .slice q5 l5 m5, .int .i64 R.2.1, .int .i64 0] 44))
          have HE := Lib.hid (M5.out.end HO5.out hn5 HZ5.out (by unfold InI64'; omega) (by unfold InI64'; omega) (by decide) R.2.1 (.cells #[.int .i64 6, .int .i64 0, .string ⟨#[]⟩, .slice q5 l5 m5, .int .i64 R.2.1, .int .i64 0] 44))
          unfold putU putV at HF HE
          clear b0 b1 b2 b3 b4 b5 f0 f1 f2 f3 f4 f5 bz d0 d1 d2 d3 e0 e1 e2 e3 dz
          obtain ⟨b0, b1, b2, b3, b4, b5, f0, f1, f2, f3, f4, f5, bz⟩ := blk6 HF.out
          refine bodyPost_ret (v := .agg #[.int .i64 6, .int .i64 0, .string ⟨#[]⟩, .slice q5 l5 m5, .int .i64 R.2.1, .int .i64 0]) (by simp [results, Tryz.results60, go_sem, b0, b1, b2, b3, b4, b5]) rfl ?_
        
          rw [e1]
          exact HE.out
        · obtain ⟨c2, hcc⟩ : ∃ c2, R.2.2 = c2 := ⟨_, rfl⟩
          rw [hcc] at hc2
          have eX : itemsU 0 R = (zeroVa, 0, c2) := by unfold itemsU; rw [hcc, if_pos hc2]
          have e1 : r = (zeroVa, 0, c2) := by rw [e0']; unfold itemsU; rw [hcc, if_pos hc2]
          rw [eX] at HO5 ⊢
          clear e0' eX hcc
          obtain ⟨b0, b1, b2, b3, b4, b5, f0, f1, f2, f3, f4, f5, bz⟩ := blk6 M5.out.out
          go_wp2_with fail
          have HF := Lib.hid (M5.out.bad k5 n5 t5 q5 l5 m5 c2 (.cells #[.int .i64 k5, .int .i64 n5, .string t5, .slice q5 l5 m5, .int .i64 0, .int .i64 c2] 44))
          have HE := Lib.hid (M5.out.end_bad HO5.out hn5 HZ5.out c2 (.cells #[.int .i64 k5, .int .i64 n5, .string t5, .slice q5 l5 m5, .int .i64 0, .int .i64 c2] 44))
          unfold putU putV at HF HE
          clear b0 b1 b2 b3 b4 b5 f0 f1 f2 f3 f4 f5 bz
          obtain ⟨b0, b1, b2, b3, b4, b5, f0, f1, f2, f3, f4, f5, bz⟩ := blk6 HF.out
          refine bodyPost_ret (v := .agg #[.int .i64 k5, .int .i64 n5, .string t5, .slice q5 l5 m5, .int .i64 0, .int .i64 c2]) (by simp [results, Tryz.results60, go_sem, b0, b1, b2, b3, b4, b5]) rfl ?_
          rw [e1]
          exact HE.out
      · have e1 : r = (zeroVa, 0, 3) := by rw [← HR.out]; simp [show (n < 0 ∨ 6 < n) by omega]
        go_wp2_with fail
        refine (l02Is_any n 0 6 _).mono ?_
        rintro e w' ⟨rfl, rfl⟩
        rw [decide_eq_true hn0, decide_eq_false (p := n ≤ 6) (by omega)]
        go_wp2_with fail
        refine (ill_any 3 _).mono ?_
        rintro e w4 ⟨rfl, hb4⟩
        have B4 := Lib.hid (B1.out.trans (((HBB.out _ _).trans (hb4.mono (by simp; omega))).mono B1.out.size))
        have D2 := blk_below T1.out.out ((HBB.out _ _).trans (hb4.mono (by simp; omega))) bz
        obtain ⟨x0, x1, x2, x3, x4, x5, v0, v1, v2, v3, v4, v5, xz⟩ := blk6 D2
        clear hb4 D2
        go_wp2_with fail
        refine bodyPost_ret (v := .agg #[.int .i64 0, .int .i64 0, .string ⟨#[]⟩, .slice none 0 0, .int .i64 0, .int .i64 3]) (by simp [results, Tryz.results60, go_sem, x0, x1, x2, x3, x4, x5]) rfl ?_
        rw [e1]
        exact unp_end B4.out (own_zero _ _) (by simp) List.nodup_nil
    · have e1 : r = (zeroVa, 0, 3) := by rw [← HR.out]; simp [show (n < 0 ∨ 6 < n) by omega]
      go_wp2_with fail
      refine (l02Is_any n 0 6 _).mono ?_
      rintro e w' ⟨rfl, rfl⟩
      rw [decide_eq_false (p := 0 ≤ n) (by omega)]
      go_wp2_with fail
      refine (ill_any 3 _).mono ?_
      rintro e w4 ⟨rfl, hb4⟩
      have B4 := Lib.hid (B1.out.trans (((HBB.out _ _).trans (hb4.mono (by simp; omega))).mono B1.out.size))
      have D2 := blk_below T1.out.out ((HBB.out _ _).trans (hb4.mono (by simp; omega))) bz
      obtain ⟨x0, x1, x2, x3, x4, x5, v0, v1, v2, v3, v4, v5, xz⟩ := blk6 D2
      clear hb4 D2
      go_wp2_with fail
      refine bodyPost_ret (v := .agg #[.int .i64 0, .int .i64 0, .string ⟨#[]⟩, .slice none 0 0, .int .i64 0, .int .i64 3]) (by simp [results, Tryz.results60, go_sem, x0, x1, x2, x3, x4, x5]) rfl ?_
      rw [e1]
      exact unp_end B4.out (own_zero _ _) (by simp) List.nodup_nil
  · have e1 : r = (zeroVa, 0, c) := by rw [← HR.out]; simp [hc]
    go_wp2_with fail
    refine (ill_any c _).mono ?_
    rintro e w4 ⟨rfl, hb4⟩
    have B4 := Lib.hid (B1.out.trans (((HBA.out _).trans (hb4.mono (by simp))).mono B1.out.size))
    have D2 := blk_below T1.out.out ((HBA.out _).trans (hb4.mono (by simp))) bz
    obtain ⟨x0, x1, x2, x3, x4, x5, v0, v1, v2, v3, v4, v5, xz⟩ := blk6 D2
    clear hb4 D2
    go_wp2_with fail
    refine bodyPost_ret (v := .agg #[.int .i64 0, .int .i64 0, .string ⟨#[]⟩, .slice none 0 0, .int .i64 0, .int .i64 c]) (by simp [results, Tryz.results60, go_sem, x0, x1, x2, x3, x4, x5]) rfl ?_
    rw [e1]
    exact unp_end B4.out (own_zero _ _) (by simp) List.nodup_nil
end Go.Proofs.YtphiljhdonnpmaaGreatDoor
namespace Go.Proofs.YtphiljhdonnpmaaGreatDoor
open Go.RowKit

set_option maxRecDepth 100000 in
set_option maxHeartbeats 4000000 in
theorem su_rec (d : Nat) (ih : SuAt d) (su : List Sh) (hy : ∀ x ∈ su, partOk d x = true) (hl6 : su.length ≤ 6) (p1 p2 p3 : Option Addr) (n1 n2 m1 m2 m3 : Nat) (bs : ByteArray) (p : Int) (w : World) (h8 : bs.size ≤ 8000) (h0 : 0 ≤ p) (h1 : p ≤ bs.size) (hsu : IsShs w (.slice p3 su.length m3) su) :
    Calls Tryz.prog 60 #[.agg #[.int .i64 7, .slice p1 n1 m1, .slice p2 n2 m2, .slice p3 su.length m3], .string bs, .int .i64 p] w
      (UnpPost w (itemsU 7 (seqU (su.map (unB bs)) p))) := by
  have IH := Lib.hid ih
  have HSu := Lib.hid hsu
  have HY := Lib.hid hy
  have HPl := Lib.hid (And.intro h0 h1)
  obtain ⟨W, hW⟩ : ∃ W, W = (((w.alloc (.cells #[.int .i64 7, .slice p1 n1 m1, .slice p2 n2 m2, .slice p3 su.length m3] 34)).alloc (.cells #[.int .i64 0, .int .i64 0, .string ⟨#[]⟩, .slice none 0 0, .int .i64 0, .int .i64 0] 44)).alloc (.cells #[.int .i64 7, .int .i64 0, .string ⟨#[]⟩, .slice none 0 0] 38)) := ⟨_, rfl⟩
  have hT := three_at w 7 p1 p2 p3 n1 n2 su.length m1 m2 m3
  rw [← hW] at hT
  have HT := Lib.hid hT
  have HW := Lib.hid hW
  have HM := Lib.hid hT.mid
  obtain ⟨R, hR⟩ : ∃ R, seqU (su.map (unB bs)) p = R := ⟨_, rfl⟩
  rw [hR]
  have HRR := Lib.hid hR
  clear hR hT hW h0 h1 ih hsu hy
  go_enter Tryz.func60, Tryz.ntmps60
  go_wp2_with fail
  rw [← HW.out]
  have hg : ∀ i (h : i < (su.map (unB bs)).length), ∃ (j : Nat) (hj : j < su.length), (if (i : Int) < (su.length : Int) - 1 then (i : Int) else (su.length : Int) - 1) = j ∧ (su.map (unB bs))[i] = unB bs su[j] := by
    intro i h
    rw [List.length_map] at h
    refine ⟨i, h, ?_, by simp⟩
    split <;> omega
  refine (items_any d IH.out su HY.out p3 m3 su.length bs p W (su.map (unB bs)) (by simp) hl6 hl6 hg h8 HPl.out.1 HPl.out.2 (HSu.out.keep (Keeps.of_below HM.out.below))).mono ?_
  rw [HRR.out]
  clear hg
  rintro e w5 ⟨k5, n5, t5, q5, l5, m5, F5, rfl, ho5, hn5, hb5⟩
  have M5 := Lib.hid (HM.out.later hb5)
  have HO5 := Lib.hid ho5
  have HZ5 : Hid (w.heap.size + 1 + 1 < W.heap.size) := (Array.getElem?_eq_some_iff.1 HM.out.va).1
  clear hb5 ho5
  by_cases hc2 : R.2.2 = 0
  · have eX : itemsU 0 R = (.mk 0 0 ⟨#[]⟩ R.1, R.2.1, 0) := by unfold itemsU; rw [if_neg (fun h => h hc2)]
    have e1 : itemsU 7 R = (.mk 7 0 ⟨#[]⟩ R.1, R.2.1, 0) := by unfold itemsU; rw [if_neg (fun h => h hc2)]
    rw [eX] at HO5 ⊢
    clear eX
    obtain ⟨b0, b1, b2, b3, b4, b5, f0, f1, f2, f3, f4, f5, bz⟩ := blk6 M5.out.out
    obtain ⟨d0, d1, d2, d3, e0, e1, e2, e3, dz⟩ := blk4 M5.out.va
    go_wp2_with fail
    have HF := Lib.hid (M5.out.fin q5 l5 m5 R.2.1 (.cells #[.int .i64 7, .int .i64 0, .string ⟨#[]⟩, .slice q5 l5 m5, .int .i64 R.2.1, .int .i64 0] 44))
    have HE := Lib.hid (M5.out.end HO5.out hn5 HZ5.out (by unfold InI64'; omega) (by unfold InI64'; omega) (by decide) R.2.1 (.cells #[.int .i64 7, .int .i64 0, .string ⟨#[]⟩, .slice q5 l5 m5, .int .i64 R.2.1, .int .i64 0] 44))
    unfold putU putV at HF HE
    clear b0 b1 b2 b3 b4 b5 f0 f1 f2 f3 f4 f5 bz d0 d1 d2 d3 e0 e1 e2 e3 dz
    obtain ⟨b0, b1, b2, b3, b4, b5, f0, f1, f2, f3, f4, f5, bz⟩ := blk6 HF.out
    refine bodyPost_ret (v := .agg #[.int .i64 7, .int .i64 0, .string ⟨#[]⟩, .slice q5 l5 m5, .int .i64 R.2.1, .int .i64 0]) (by simp [results, Tryz.results60, go_sem, b0, b1, b2, b3, b4, b5]) rfl ?_
  
    rw [e1]
    exact HE.out
  · obtain ⟨c2, hcc⟩ : ∃ c2, R.2.2 = c2 := ⟨_, rfl⟩
    rw [hcc] at hc2
    have eX : itemsU 0 R = (zeroVa, 0, c2) := by unfold itemsU; rw [hcc, if_pos hc2]
    have e1 : itemsU 7 R = (zeroVa, 0, c2) := by unfold itemsU; rw [hcc, if_pos hc2]
    rw [eX] at HO5 ⊢
    clear eX hcc
    obtain ⟨b0, b1, b2, b3, b4, b5, f0, f1, f2, f3, f4, f5, bz⟩ := blk6 M5.out.out
    go_wp2_with fail
    have HF := Lib.hid (M5.out.bad k5 n5 t5 q5 l5 m5 c2 (.cells #[.int .i64 k5, .int .i64 n5, .string t5, .slice q5 l5 m5, .int .i64 0, .int .i64 c2] 44))
    have HE := Lib.hid (M5.out.end_bad HO5.out hn5 HZ5.out c2 (.cells #[.int .i64 k5, .int .i64 n5, .string t5, .slice q5 l5 m5, .int .i64 0, .int .i64 c2] 44))
    unfold putU putV at HF HE
    clear b0 b1 b2 b3 b4 b5 f0 f1 f2 f3 f4 f5 bz
    obtain ⟨b0, b1, b2, b3, b4, b5, f0, f1, f2, f3, f4, f5, bz⟩ := blk6 HF.out
    refine bodyPost_ret (v := .agg #[.int .i64 k5, .int .i64 n5, .string t5, .slice q5 l5 m5, .int .i64 0, .int .i64 c2]) (by simp [results, Tryz.results60, go_sem, b0, b1, b2, b3, b4, b5]) rfl ?_
    rw [e1]
    exact HE.out
end Go.Proofs.YtphiljhdonnpmaaGreatDoor
namespace Go.Proofs.YtphiljhdonnpmaaGreatDoor
open Go.RowKit

theorem su_any (d : Nat) : SuAt d := by
  induction d with
  | zero => intro s bs p v w h; simp [partOk] at h
  | succ d ih =>
    intro s bs p v w hp h8 h0 h1 hs
    cases s with | mk k sy na su =>
    obtain ⟨p1, m1, p2, m2, p3, m3, rfl, _, g1, g2, g3⟩ := hs.open
    have hm3 : m3 ≤ 9223372036854775807 := by
      obtain ⟨_, _, e, _, hc, _⟩ := g3
      simp only [Value.slice.injEq] at e
      obtain ⟨_, _, rfl⟩ := e
      exact hc
    simp only [partOk, Bool.and_eq_true] at hp
    have hall := List.all_eq_true.1 hp.2
    rcases sound_cases hp.1 with ⟨hk, rfl, rfl, hn⟩ | ⟨rfl, hs0, hs6, hsw, rfl, hn⟩ | ⟨hk, rfl, rfl, hn⟩ | ⟨rfl, rfl, h6, _, hn⟩
    · obtain rfl := List.eq_nil_of_length_eq_zero hn
      rcases hk with rfl | rfl | rfl
      · have e : unB bs (.mk 1 [] [] []) p = (if (readN bs p 1).2.2 ≠ 0 then (zeroVa, 0, (readN bs p 1).2.2) else (.mk 1 (readN bs p 1).1 ⟨#[]⟩ [], (readN bs p 1).2.1, 0)) := by unfold unB; rw [if_pos rfl]
        rw [e]
        exact su_num1 d ih p1 p2 p3 _ _ m1 m2 m3 hm3 (by simp) bs p w h8 h0 h1
      · have e : unB bs (.mk 2 [] [] []) p = (if (readN bs p 1000000).2.2 ≠ 0 then (zeroVa, 0, (readN bs p 1000000).2.2) else (.mk 2 (readN bs p 1000000).1 ⟨#[]⟩ [], (readN bs p 1000000).2.1, 0)) := by unfold unB; rw [if_neg (by decide), if_pos rfl]
        rw [e]
        exact su_num2 d ih p1 p2 p3 _ _ m1 m2 m3 hm3 (by simp) bs p w h8 h0 h1
      · have e : unB bs (.mk 3 [] [] []) p = (if (readP bs p).2.2 ≠ 0 then (zeroVa, 0, (readP bs p).2.2) else (.mk 3 0 (readP bs p).1 [], (readP bs p).2.1, 0)) := by unfold unB; rw [if_neg (by decide), if_neg (by decide), if_pos rfl]
        rw [e]
        exact su_text p1 p2 p3 _ _ _ m1 m2 m3 bs p w h8 h0 h1
    · obtain rfl := List.eq_nil_of_length_eq_zero hn
      have e : unB bs (.mk 4 sy [] []) p = (if (readN bs p (sy.length - 1)).2.2 ≠ 0 then (zeroVa, 0, (readN bs p (sy.length - 1)).2.2) else (.mk 4 0 (sy.getD (readN bs p (sy.length - 1)).1.toNat ⟨#[]⟩) [], (readN bs p (sy.length - 1)).2.1, 0)) := by unfold unB; rw [if_neg (by decide), if_neg (by decide), if_neg (by decide), if_pos rfl]
      rw [e]
      exact su_pick d ih sy hs0 (words_size hsw) p1 p2 p3 _ m1 m2 m3 hm3 hs6 bs p w h8 h0 h1 g1
    · obtain ⟨y, rfl⟩ := List.length_eq_one_iff.1 hn
      rcases hk with rfl | rfl
      · have e : unB bs (.mk 5 [] [] [y]) p = (if (readN bs p 1).2.2 ≠ 0 then (zeroVa, 0, (readN bs p 1).2.2) else itemsU 5 (seqU (List.replicate (readN bs p 1).1.toNat (unB bs y)) (readN bs p 1).2.1)) := by
          unfold unB; rw [if_neg (by decide), if_neg (by decide), if_neg (by decide), if_neg (by decide), if_pos rfl, unOne_cons]
        rw [e]
        exact su_items5 d ih y (hall y (by simp)) p1 p2 p3 _ _ m1 m2 m3 (by simp) bs p w h8 h0 h1 g3
      · have e : unB bs (.mk 6 [] [] [y]) p = (if (readN bs p 6).2.2 ≠ 0 then (zeroVa, 0, (readN bs p 6).2.2) else itemsU 6 (seqU (List.replicate (readN bs p 6).1.toNat (unB bs y)) (readN bs p 6).2.1)) := by
          unfold unB; rw [if_neg (by decide), if_neg (by decide), if_neg (by decide), if_neg (by decide), if_neg (by decide), if_pos rfl, unOne_cons]
        rw [e]
        exact su_items6 d ih y (hall y (by simp)) p1 p2 p3 _ _ m1 m2 m3 (by simp) bs p w h8 h0 h1 g3
    · have e : unB bs (.mk 7 [] na su) p = itemsU 7 (seqU (su.map (unB bs)) p) := by
        unfold unB; rw [if_neg (by decide), if_neg (by decide), if_neg (by decide), if_neg (by decide), if_neg (by decide), if_neg (by decide), unAll_map]
      rw [e]
      exact su_rec d ih su hall (by omega) p1 p2 p3 _ _ m1 m2 m3 bs p w h8 h0 h1 g3
end Go.Proofs.YtphiljhdonnpmaaGreatDoor
namespace Go.Proofs.YtphiljhdonnpmaaGreatDoor
open Go.RowKit

set_option maxRecDepth 100000 in
set_option maxHeartbeats 2000000 in
theorem specUnpack_is (s : Sh) (bs : ByteArray) (p : Int) (r : UnR) (hr : unpackR s bs p = r) (u : Value) (w : World) (hz : bs.size ≤ maxLen) (h : IsSh w s u) :
    Calls Tryz.prog 17 #[u, .string bs, .int .i64 p] w (UnpPost w r) := by
  have HH := Lib.hid h
  obtain ⟨p1, n1, m1, p2, n2, m2, p3, n3, m3, rfl⟩ := h.agg
  have hX := two_new w (.cells #[.int .i64 s.kd, .slice p1 n1 m1, .slice p2 n2 m2, .slice p3 n3 m3] 34) (.cells #[.int .i64 0, .int .i64 0, .string ⟨#[]⟩, .slice none 0 0, .int .i64 0, .int .i64 0] 44)
  have hbw := (below_alloc w (.cells #[.int .i64 s.kd, .slice p1 n1 m1, .slice p2 n2 m2, .slice p3 n3 m3] 34)).alloc (by simp) (.cells #[.int .i64 0, .int .i64 0, .string ⟨#[]⟩, .slice none 0 0, .int .i64 0, .int .i64 0] 44)
  obtain ⟨W, hW⟩ : ∃ W, W = (w.alloc (.cells #[.int .i64 s.kd, .slice p1 n1 m1, .slice p2 n2 m2, .slice p3 n3 m3] 34)).alloc (.cells #[.int .i64 0, .int .i64 0, .string ⟨#[]⟩, .slice none 0 0, .int .i64 0, .int .i64 0] 44) := ⟨_, rfl⟩
  rw [← hW] at hX hbw
  have S1 := Lib.hid hX.1
  have S2 := Lib.hid hX.2
  have BW := Lib.hid hbw
  have HW := Lib.hid hW
  obtain ⟨a0, a1, a2, a3, _, _, _, _, az⟩ := blk4 S1.out
  obtain ⟨_, _, _, _, _, _, _, _, _, _, _, _, bz⟩ := blk6 S2.out
  clear h hX hbw hW
  unfold maxLen at hz
  by_cases h8 : 8000 < bs.size
  · have HR : Hid ((zeroVa, (0 : Int), (2 : Int)) = r) := by show _ = _; rw [← hr]; unfold unpackR; rw [if_pos h8]
    have h8i : (8000 : Int) < bs.size := by omega
    clear hr h8
    go_enter Tryz.func17, Tryz.ntmps17
    go_wp2_with fail
    rw [← HW.out]
    refine (ill_any 2 _).mono ?_
    rintro e w4 ⟨rfl, hb4⟩
    have B4 := Lib.hid (BW.out.trans (hb4.mono BW.out.size))
    have D2 := blk_below S2.out hb4 bz
    obtain ⟨x0, x1, x2, x3, x4, x5, v0, v1, v2, v3, v4, v5, xz⟩ := blk6 D2
    clear hb4 D2
    go_wp2_with fail
    refine bodyPost_ret (v := .agg #[.int .i64 0, .int .i64 0, .string ⟨#[]⟩, .slice none 0 0, .int .i64 0, .int .i64 2]) (by simp [results, Tryz.results17, go_sem, x0, x1, x2, x3, x4, x5]) rfl ?_
    rw [← HR.out]
    exact unp_end B4.out (own_zero _ _) (by simp) List.nodup_nil
  · have h8i : ¬ (8000 : Int) < bs.size := by omega
    have HZ : Hid (bs.size ≤ 8000) := by show _ ≤ _; omega
    cases hrb : rightB s
    · have HR : Hid ((zeroVa, (0 : Int), (1 : Int)) = r) := by show _ = _; rw [← hr]; unfold unpackR; rw [if_neg h8, hrb, if_neg (by simp)]
      have HRB := Lib.hid hrb
      clear hr hrb h8
      go_enter Tryz.func17, Tryz.ntmps17
      go_wp2_with fail
      rw [← HW.out]
      refine (specRight_is s _ HRB.out _ _ (IsSh.keep (Keeps.of_below BW.out) _ _ HH.out)).mono ?_
      rintro e w1 ⟨rfl, hb1⟩
      have B1 := Lib.hid (BW.out.trans (hb1.mono BW.out.size))
      have T1 := Lib.hid (blk_below S1.out hb1 az)
      have T2 := Lib.hid (blk_below S2.out hb1 bz)
      clear hb1 a0 a1 a2 a3 az bz
      obtain ⟨a0, a1, a2, a3, _, _, _, _, az⟩ := blk4 T1.out
      obtain ⟨_, _, _, _, _, _, _, _, _, _, _, _, bz⟩ := blk6 T2.out
      go_wp2_with fail
      refine (ill_any 1 _).mono ?_
      rintro e w4 ⟨rfl, hb4⟩
      have B4 := Lib.hid (B1.out.trans (hb4.mono B1.out.size))
      have D2 := blk_below T2.out hb4 bz
      obtain ⟨x0, x1, x2, x3, x4, x5, v0, v1, v2, v3, v4, v5, xz⟩ := blk6 D2
      clear hb4 D2
      go_wp2_with fail
      refine bodyPost_ret (v := .agg #[.int .i64 0, .int .i64 0, .string ⟨#[]⟩, .slice none 0 0, .int .i64 0, .int .i64 1]) (by simp [results, Tryz.results17, go_sem, x0, x1, x2, x3, x4, x5]) rfl ?_
      rw [← HR.out]
      exact unp_end B4.out (own_zero _ _) (by simp) List.nodup_nil
    · have HRB := Lib.hid hrb
      by_cases hp0 : 0 ≤ p
      · by_cases hp1 : p ≤ (bs.size : Int)
        · have HR : Hid (unB bs s p = r) := by show _ = _; rw [← hr]; unfold unpackR; rw [if_neg h8, if_pos ⟨hrb, hp0, hp1⟩]
          have HR5 : Hid (partOk 5 s = true) := by show _ = _; exact hrb
          clear hr hrb h8
          go_enter Tryz.func17, Tryz.ntmps17
          go_wp2_with fail
          rw [← HW.out]
          refine (specRight_is s _ HRB.out _ _ (IsSh.keep (Keeps.of_below BW.out) _ _ HH.out)).mono ?_
          rintro e w1 ⟨rfl, hb1⟩
          have B1 := Lib.hid (BW.out.trans (hb1.mono BW.out.size))
          have T1 := Lib.hid (blk_below S1.out hb1 az)
          have T2 := Lib.hid (blk_below S2.out hb1 bz)
          clear hb1 a0 a1 a2 a3 az bz
          obtain ⟨a0, a1, a2, a3, _, _, _, _, az⟩ := blk4 T1.out
          obtain ⟨_, _, _, _, _, _, _, _, _, _, _, _, bz⟩ := blk6 T2.out
          go_wp2_with fail
          refine (l02Is_any p 0 bs.size _).mono ?_
          rintro e w' ⟨rfl, rfl⟩
          rw [decide_eq_true hp0, decide_eq_true hp1]
          go_wp2_with fail
          refine (su_any 5 s bs p _ w1 HR5.out HZ.out hp0 hp1 (IsSh.keep (Keeps.of_below B1.out) _ _ HH.out)).mono ?_
          rw [HR.out]
          rintro e w5 ⟨k5, n5, t5, q5, l5, m5, F5, rfl, ho5, hn5, hb5⟩
          have B5 := Lib.hid (B1.out.trans (hb5.mono B1.out.size))
          have D2 := blk_below T2.out hb5 bz
          have HO5 := Lib.hid ho5
          have HZ1 : Hid (w.heap.size + 1 < w1.heap.size) := bz
          obtain ⟨x0, x1, x2, x3, x4, x5, v0, v1, v2, v3, v4, v5, xz⟩ := blk6 D2
          clear hb5 D2 ho5
          go_wp2_with fail
          refine bodyPost_ret (v := .agg #[.int .i64 k5, .int .i64 n5, .string t5, .slice q5 l5 m5, .int .i64 r.2.1, .int .i64 r.2.2]) (by simp [results, Tryz.results17, go_sem, x0, x1, x2, x3, x4, x5]) rfl ?_
          exact unp_end B5.out (HO5.out.move' (by have := HZ1.out; omega)) (fun b hb => by have := (OwnVa.blocks _ _ _ HO5.out b hb).1; have := HZ1.out; omega) hn5
        · have HR : Hid ((zeroVa, (0 : Int), (1 : Int)) = r) := by show _ = _; rw [← hr]; unfold unpackR; rw [if_neg h8, if_neg (fun h => hp1 h.2.2)]
          clear hr hrb h8
          go_enter Tryz.func17, Tryz.ntmps17
          go_wp2_with fail
          rw [← HW.out]
          refine (specRight_is s _ HRB.out _ _ (IsSh.keep (Keeps.of_below BW.out) _ _ HH.out)).mono ?_
          rintro e w1 ⟨rfl, hb1⟩
          have B1 := Lib.hid (BW.out.trans (hb1.mono BW.out.size))
          have T1 := Lib.hid (blk_below S1.out hb1 az)
          have T2 := Lib.hid (blk_below S2.out hb1 bz)
          clear hb1 a0 a1 a2 a3 az bz
          obtain ⟨a0, a1, a2, a3, _, _, _, _, az⟩ := blk4 T1.out
          obtain ⟨_, _, _, _, _, _, _, _, _, _, _, _, bz⟩ := blk6 T2.out
          go_wp2_with fail
          refine (l02Is_any p 0 bs.size _).mono ?_
          rintro e w' ⟨rfl, rfl⟩
          rw [decide_eq_true hp0, decide_eq_false (p := p ≤ (bs.size : Int)) (by omega)]
          go_wp2_with fail
          refine (ill_any 1 _).mono ?_
          rintro e w4 ⟨rfl, hb4⟩
          have B4 := Lib.hid (B1.out.trans (hb4.mono B1.out.size))
          have D2 := blk_below T2.out hb4 bz
          obtain ⟨x0, x1, x2, x3, x4, x5, v0, v1, v2, v3, v4, v5, xz⟩ := blk6 D2
          clear hb4 D2
          go_wp2_with fail
          refine bodyPost_ret (v := .agg #[.int .i64 0, .int .i64 0, .string ⟨#[]⟩, .slice none 0 0, .int .i64 0, .int .i64 1]) (by simp [results, Tryz.results17, go_sem, x0, x1, x2, x3, x4, x5]) rfl ?_
          rw [← HR.out]
          exact unp_end B4.out (own_zero _ _) (by simp) List.nodup_nil
      · have HR : Hid ((zeroVa, (0 : Int), (1 : Int)) = r) := by show _ = _; rw [← hr]; unfold unpackR; rw [if_neg h8, if_neg (fun h => hp0 h.2.1)]
        clear hr hrb h8
        go_enter Tryz.func17, Tryz.ntmps17
        go_wp2_with fail
        rw [← HW.out]
        refine (specRight_is s _ HRB.out _ _ (IsSh.keep (Keeps.of_below BW.out) _ _ HH.out)).mono ?_
        rintro e w1 ⟨rfl, hb1⟩
        have B1 := Lib.hid (BW.out.trans (hb1.mono BW.out.size))
        have T1 := Lib.hid (blk_below S1.out hb1 az)
        have T2 := Lib.hid (blk_below S2.out hb1 bz)
        clear hb1 a0 a1 a2 a3 az bz
        obtain ⟨a0, a1, a2, a3, _, _, _, _, az⟩ := blk4 T1.out
        obtain ⟨_, _, _, _, _, _, _, _, _, _, _, _, bz⟩ := blk6 T2.out
        go_wp2_with fail
        refine (l02Is_any p 0 bs.size _).mono ?_
        rintro e w' ⟨rfl, rfl⟩
        rw [decide_eq_false (p := (0 : Int) ≤ p) (by omega)]
        go_wp2_with fail
        refine (ill_any 1 _).mono ?_
        rintro e w4 ⟨rfl, hb4⟩
        have B4 := Lib.hid (B1.out.trans (hb4.mono B1.out.size))
        have D2 := blk_below T2.out hb4 bz
        obtain ⟨x0, x1, x2, x3, x4, x5, v0, v1, v2, v3, v4, v5, xz⟩ := blk6 D2
        clear hb4 D2
        go_wp2_with fail
        refine bodyPost_ret (v := .agg #[.int .i64 0, .int .i64 0, .string ⟨#[]⟩, .slice none 0 0, .int .i64 0, .int .i64 1]) (by simp [results, Tryz.results17, go_sem, x0, x1, x2, x3, x4, x5]) rfl ?_
        rw [← HR.out]
        exact unp_end B4.out (own_zero _ _) (by simp) List.nodup_nil
end Go.Proofs.YtphiljhdonnpmaaGreatDoor
