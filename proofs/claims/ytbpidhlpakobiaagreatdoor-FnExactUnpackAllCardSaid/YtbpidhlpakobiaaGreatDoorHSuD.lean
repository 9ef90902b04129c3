/- Walks: spec.l04Unpack at a list. · Walks: spec.l04Unpack at a record. -/
import Derived.Test.YtbpidhlpakobiaaGreatDoorHSuC
namespace Go.Proofs.YtbpidhlpakobiaaGreatDoor
open Go.RowKit

theorem Mid.bad {w w5 : World} {k n : Int} {t : ByteArray} (h : Mid w w5 k n t) (k5 n5 : Int) (t5 : ByteArray) (q5 : Option Addr) (l5 m5 : Nat) (c : Int) (o : Obj) :
    ((putU w5 (w.heap.size + 1) k5 n5 t5 (.slice q5 l5 m5) 0 c).alloc o).heap[w.heap.size + 1]? = some (.cells #[.int .i64 k5, .int .i64 n5, .string t5, .slice q5 l5 m5, .int .i64 0, .int .i64 c] 50 (0, 0)) := by
  have h2 := putU_same h.out k5 n5 t5 (.slice q5 l5 m5) 0 c
  exact blk_below h2 (below_alloc _ o) (Array.getElem?_eq_some_iff.1 h2).1
theorem Mid.end_bad {w w5 wz : World} {k n : Int} {t : ByteArray} (h : Mid w w5 k n t) {x : Va} {k5 n5 : Int} {t5 : ByteArray} {q5 : Option Addr} {l5 m5 : Nat} {F : List Nat} (ho : OwnVa w5 wz.heap.size x (.agg #[.int .i64 k5, .int .i64 n5, .string t5, .slice q5 l5 m5]) F) (hn : F.Nodup) (hz : w.heap.size + 1 + 1 < wz.heap.size) (c : Int) (o : Obj) :
    UnpPost w (x, 0, c) (.returned (.agg #[.int .i64 k5, .int .i64 n5, .string t5, .slice q5 l5 m5, .int .i64 0, .int .i64 c])) ((putU w5 (w.heap.size + 1) k5 n5 t5 (.slice q5 l5 m5) 0 c).alloc o) := by
  have hF : ∀ g ∈ F, w.heap.size + 1 + 1 < g := fun g hg => by have := (OwnVa.blocks _ _ _ ho g hg).1; omega
  exact UnpPost.grow (unp_end h.below (ho.move' (by omega)) (fun g hg => by have := hF g hg; omega) hn) (below_alloc _ o)

set_option maxRecDepth 100000 in
set_option maxHeartbeats 4000000 in
theorem su_items5 (d : Nat) (ih : SuAt d) (y : Sh) (hy : partOk d y = true) (p1 p2 p3 : Option Addr) (n1 n2 m1 m2 m3 : Nat) (hn1 : n1 ≤ 6) (bs : ByteArray) (p : Int) (w : World) (h8 : bs.size ≤ 8000) (h0 : 0 ≤ p) (h1 : p ≤ bs.size) (hsu : IsShs w (.slice p3 1 m3) [y]) :
    Calls Tryz.prog 69 #[.agg #[.int .i64 5, .slice p1 n1 m1, .slice p2 n2 m2, .slice p3 1 m3], .string bs, .int .i64 p] w
      (UnpPost w (if (readN bs p 1).2.2 ≠ 0 then (zeroVa, 0, (readN bs p 1).2.2) else itemsU 5 (seqU (List.replicate (readN bs p 1).1.toNat (unB bs y)) (readN bs p 1).2.1))) := by
  obtain ⟨⟨n, q, c⟩, hX⟩ : ∃ X : Int × Int × Int, getRes bs p = X := ⟨_, rfl⟩
  have HNm := Lib.hid (num_parts bs p n q c h8 h0 h1 hX)
  rw [readN_parts hX]
  have hq : c = 0 → 0 ≤ q ∧ q ≤ bs.size := fun hc => by have := res_place (s := bs) (p := p) (by rw [hX]; exact hc); rw [hX] at this; exact this
  obtain ⟨r, hr⟩ : ∃ r : UnR, (if (if c ≠ 0 then ((0 : Int), (0 : Int), c) else if n < 0 ∨ 1 < n then (0, 0, 3) else (n, q, 0)).2.2 ≠ 0 then (zeroVa, (0 : Int), (if c ≠ 0 then ((0 : Int), (0 : Int), c) else if n < 0 ∨ 1 < n then (0, 0, 3) else (n, q, 0)).2.2) else itemsU 5 (seqU (List.replicate (if c ≠ 0 then ((0 : Int), (0 : Int), c) else if n < 0 ∨ 1 < n then (0, 0, 3) else (n, q, 0)).1.toNat (unB bs y)) (if c ≠ 0 then ((0 : Int), (0 : Int), c) else if n < 0 ∨ 1 < n then (0, 0, 3) else (n, q, 0)).2.1)) = r := ⟨_, rfl⟩
  rw [hr]
  have HR := Lib.hid hr
  have HSu := Lib.hid hsu
  have HY := Lib.hid hy
  have IH := Lib.hid ih
  obtain ⟨W, hW⟩ : ∃ W, W = (((w.alloc (.cells #[.int .i64 5, .slice p1 n1 m1, .slice p2 n2 m2, .slice p3 1 m3] 26)).alloc (.cells #[.int .i64 0, .int .i64 0, .string ⟨#[]⟩, .slice none 0 0, .int .i64 0, .int .i64 0] 50)).alloc (.cells #[.int .i64 5, .int .i64 0, .string ⟨#[]⟩, .slice none 0 0] 29)) := ⟨_, rfl⟩
  have hT := three_at w 5 p1 p2 p3 n1 n2 1 m1 m2 m3
  rw [← hW] at hT
  have HT := Lib.hid hT
  have HW := Lib.hid hW
  have HQ := Lib.hid hq
  clear hX hr hT hW h0 h1 hq ih hsu hy
  have hw1 : IntKind.i64.wrap ((n1 : Int) - 1) = (n1 : Int) - 1 := IntWalk.i64_in _ (by omega)
  obtain ⟨a0, a1, a2, a3, _, _, _, _, az⟩ := blk4 HT.out.sh
  obtain ⟨_, _, _, _, _, _, _, _, _, _, _, _, bz⟩ := blk6 HT.out.out
  obtain ⟨d0, d1, d2, d3, _, _, _, _, dz⟩ := blk4 HT.out.va
  go_enter Tryz.func69, Tryz.ntmps69
  go_wp2_with fail
  rw [← HW.out]
  refine (HNm.out W).mono ?_
  rintro e w1 ⟨rfl, hb1⟩
  have T1 := Lib.hid (HT.out.later hb1)
  have B1 := Lib.hid T1.out.below
  have HBA := Lib.hid (below_alloc w1)
  have HBB := Lib.hid (fun o1 o2 => (below_alloc w1 o1).alloc (by simp) o2)
  clear hb1 a0 a1 a2 a3 az bz d0 d1 d2 d3 dz
  obtain ⟨a0, a1, a2, a3, _, _, _, _, az⟩ := blk4 T1.out.sh
  obtain ⟨_, _, _, _, _, _, _, _, _, _, _, _, bz⟩ := blk6 T1.out.out
  obtain ⟨d0, d1, d2, d3, e0, e1, e2, e3, dz⟩ := blk4 T1.out.va
  by_cases hc : c = 0
  · subst hc
    by_cases hn0 : 0 ≤ n
    · by_cases hn1' : n ≤ 1
      · obtain ⟨jj, rfl⟩ := Int.eq_ofNat_of_zero_le hn0
        have hj6 : jj ≤ 6 := by omega
        go_wp2_with fail
        refine (l02Is_any jj 0 1 _).mono ?_
        rintro e w' ⟨rfl, rfl⟩
        rw [decide_eq_true hn0, decide_eq_true hn1']
        go_wp2_with fail
        obtain ⟨wz, hwz⟩ : ∃ wz, wz = (w1.alloc (.cells #[.int .i64 jj, .int .i64 q, .int .i64 0] 170)).alloc (.cells #[.int .i64 0, .int .i64 1, .int .i64 1000000, .int .i64 0, .int .i64 ((n1 : Int) - 1), .int .i64 1, .int .i64 6] 2) := ⟨_, rfl⟩
        have hM : Mid w wz 5 0 ⟨#[]⟩ := by rw [hwz]; exact (T1.out.mid.alloc _).alloc _
        rw [← hwz]
        have HM := Lib.hid hM
        clear hM hwz a0 a1 a2 a3 d0 d1 d2 d3 e0 e1 e2 e3 az bz dz
        have HQ' : Hid (0 ≤ q ∧ q ≤ bs.size) := HQ.out (by first | rfl | trivial)
        have hg : ∀ i (h : i < (List.replicate jj (unB bs y)).length), ∃ (j : Nat) (hj : j < [y].length), (if (i : Int) < ([y].length : Int) - 1 then (i : Int) else ([y].length : Int) - 1) = j ∧ (List.replicate jj (unB bs y))[i] = unB bs [y][j] := by
          intro i h
          refine ⟨0, by simp, ?_, by simp⟩
          rw [if_neg (by first | (simp; done) | (simp; omega))]; simp
        refine (items_any d IH.out [y] (by simp [HY.out]) p3 m3 jj bs q wz (List.replicate jj (unB bs y)) (by simp) hj6 (by simp) hg h8 HQ'.out.1 HQ'.out.2 (HSu.out.keep (Keeps.of_below HM.out.below))).mono ?_
        obtain ⟨R, hR⟩ : ∃ R, seqU (List.replicate jj (unB bs y)) q = R := ⟨_, rfl⟩
        have HRR := Lib.hid hR
        rw [hR]
        clear hR hg
        rintro e w5 ⟨k5, n5, t5, q5, l5, m5, F5, rfl, ho5, hn5, hb5⟩
        have M5 := Lib.hid (HM.out.later hb5)
        have HO5 := Lib.hid ho5
        have HZ5 : Hid (w.heap.size + 1 + 1 < wz.heap.size) := (Array.getElem?_eq_some_iff.1 HM.out.va).1
        clear hb5 ho5
        have e0' : r = itemsU 5 R := by rw [← HR.out, if_neg (show ¬ ((0 : Int) ≠ 0) by simp), if_neg (show ¬ ((jj : Int) < 0 ∨ 1 < (jj : Int)) by omega), if_neg (by simp)]; simp only [Int.toNat_natCast]; rw [HRR.out]
        by_cases hc2 : R.2.2 = 0
        · have eX : itemsU 0 R = (.mk 0 0 ⟨#[]⟩ R.1, R.2.1, 0) := by unfold itemsU; rw [if_neg (fun h => h hc2)]
          have e1 : r = (.mk 5 0 ⟨#[]⟩ R.1, R.2.1, 0) := by rw [e0']; unfold itemsU; rw [if_neg (fun h => h hc2)]
          rw [eX] at HO5 ⊢
          clear e0' eX
          obtain ⟨b0, b1, b2, b3, b4, b5, f0, f1, f2, f3, f4, f5, bz⟩ := blk6 M5.out.out
          obtain ⟨d0, d1, d2, d3, e0, e1, e2, e3, dz⟩ := blk4 M5.out.va
          go_wp2_with fail
          have HF := Lib.hid (M5.out.fin q5 l5 m5 R.2.1 (.cells #[.int .i64 5, .int .i64 0, .string ⟨#[]⟩, .slice q5 l5 m5, .int .i64 R.2.1, .int .i64 0] 50))
          have HE := Lib.hid (M5.out.end HO5.out hn5 HZ5.out (by unfold InI64'; omega) (by unfold InI64'; omega) (by decide) R.2.1 (.cells #[.int .i64 5, .int .i64 0, .string ⟨#[]⟩, .slice q5 l5 m5, .int .i64 R.2.1, .int .i64 0] 50))
          unfold putU putV at HF HE
          clear b0 b1 b2 b3 b4 b5 f0 f1 f2 f3 f4 f5 bz d0 d1 d2 d3 e0 e1 e2 e3 dz
          obtain ⟨b0, b1, b2, b3, b4, b5, f0, f1, f2, f3, f4, f5, bz⟩ := blk6 HF.out
          refine bodyPost_ret (v := .agg #[.int .i64 5, .int .i64 0, .string ⟨#[]⟩, .slice q5 l5 m5, .int .i64 R.2.1, .int .i64 0]) (by simp [results, Tryz.results69, go_sem, b0, b1, b2, b3, b4, b5]) rfl ?_
        
          rw [e1]
          exact HE.out
        · obtain ⟨c2, hcc⟩ : ∃ c2, R.2.2 = c2 := ⟨_, rfl⟩
          rw [hcc] at hc2
          have eX : itemsU 0 R = (zeroVa, 0, c2) := by unfold itemsU; rw [hcc, if_pos hc2]
          have e1 : r = (zeroVa, 0, c2) := by rw [e0']; unfold itemsU; rw [hcc, if_pos hc2]
          rw [eX] at HO5 ⊢
          clear e0' eX hcc
          obtain ⟨b0, b1, b2, b3, b4, b5, f0, f1, f2, f3, f4, f5, bz⟩ := blk6 M5.out.out
          go_wp2_with fail
          have HF := Lib.hid (M5.out.bad k5 n5 t5 q5 l5 m5 c2 (.cells #[.int .i64 k5, .int .i64 n5, .string t5, .slice q5 l5 m5, .int .i64 0, .int .i64 c2] 50))
          have HE := Lib.hid (M5.out.end_bad HO5.out hn5 HZ5.out c2 (.cells #[.int .i64 k5, .int .i64 n5, .string t5, .slice q5 l5 m5, .int .i64 0, .int .i64 c2] 50))
          unfold putU putV at HF HE
          clear b0 b1 b2 b3 b4 b5 f0 f1 f2 f3 f4 f5 bz
          obtain ⟨b0, b1, b2, b3, b4, b5, f0, f1, f2, f3, f4, f5, bz⟩ := blk6 HF.out
          refine bodyPost_ret (v := .agg #[.int .i64 k5, .int .i64 n5, .string t5, .slice q5 l5 m5, .int .i64 0, .int .i64 c2]) (by simp [results, Tryz.results69, go_sem, b0, b1, b2, b3, b4, b5]) rfl ?_
          rw [e1]
          exact HE.out
      · have e1 : r = (zeroVa, 0, 3) := by rw [← HR.out]; simp [show (n < 0 ∨ 1 < n) by omega]
        go_wp2_with fail
        refine (l02Is_any n 0 1 _).mono ?_
        rintro e w' ⟨rfl, rfl⟩
        rw [decide_eq_true hn0, decide_eq_false (p := n ≤ 1) (by omega)]
        go_wp2_with fail
        refine (ill_any 3 _).mono ?_
        rintro e w4 ⟨rfl, hb4⟩
        have B4 := Lib.hid (B1.out.trans (((HBB.out _ _).trans (hb4.mono (by simp; omega))).mono B1.out.size))
        have D2 := blk_below T1.out.out ((HBB.out _ _).trans (hb4.mono (by simp; omega))) bz
        obtain ⟨x0, x1, x2, x3, x4, x5, v0, v1, v2, v3, v4, v5, xz⟩ := blk6 D2
        clear hb4 D2
        go_wp2_with fail
        refine bodyPost_ret (v := .agg #[.int .i64 0, .int .i64 0, .string ⟨#[]⟩, .slice none 0 0, .int .i64 0, .int .i64 3]) (by simp [results, Tryz.results69, go_sem, x0, x1, x2, x3, x4, x5]) rfl ?_
        rw [e1]
        exact unp_end B4.out (own_zero _ _) (by simp) List.nodup_nil
    · have e1 : r = (zeroVa, 0, 3) := by rw [← HR.out]; simp [show (n < 0 ∨ 1 < n) by omega]
      go_wp2_with fail
      refine (l02Is_any n 0 1 _).mono ?_
      rintro e w' ⟨rfl, rfl⟩
      rw [decide_eq_false (p := 0 ≤ n) (by omega)]
      go_wp2_with fail
      refine (ill_any 3 _).mono ?_
      rintro e w4 ⟨rfl, hb4⟩
      have B4 := Lib.hid (B1.out.trans (((HBB.out _ _).trans (hb4.mono (by simp; omega))).mono B1.out.size))
      have D2 := blk_below T1.out.out ((HBB.out _ _).trans (hb4.mono (by simp; omega))) bz
      obtain ⟨x0, x1, x2, x3, x4, x5, v0, v1, v2, v3, v4, v5, xz⟩ := blk6 D2
      clear hb4 D2
      go_wp2_with fail
      refine bodyPost_ret (v := .agg #[.int .i64 0, .int .i64 0, .string ⟨#[]⟩, .slice none 0 0, .int .i64 0, .int .i64 3]) (by simp [results, Tryz.results69, go_sem, x0, x1, x2, x3, x4, x5]) rfl ?_
      rw [e1]
      exact unp_end B4.out (own_zero _ _) (by simp) List.nodup_nil
  · have e1 : r = (zeroVa, 0, c) := by rw [← HR.out]; simp [hc]
    go_wp2_with fail
    refine (ill_any c _).mono ?_
    rintro e w4 ⟨rfl, hb4⟩
    have B4 := Lib.hid (B1.out.trans (((HBA.out _).trans (hb4.mono (by simp))).mono B1.out.size))
    have D2 := blk_below T1.out.out ((HBA.out _).trans (hb4.mono (by simp))) bz
    obtain ⟨x0, x1, x2, x3, x4, x5, v0, v1, v2, v3, v4, v5, xz⟩ := blk6 D2
    clear hb4 D2
    go_wp2_with fail
    refine bodyPost_ret (v := .agg #[.int .i64 0, .int .i64 0, .string ⟨#[]⟩, .slice none 0 0, .int .i64 0, .int .i64 c]) (by simp [results, Tryz.results69, go_sem, x0, x1, x2, x3, x4, x5]) rfl ?_
    rw [e1]
    exact unp_end B4.out (own_zero _ _) (by simp) List.nodup_nil
set_option maxRecDepth 100000 in
set_option maxHeartbeats 4000000 in
theorem su_items6 (d : Nat) (ih : SuAt d) (y : Sh) (hy : partOk d y = true) (p1 p2 p3 : Option Addr) (n1 n2 m1 m2 m3 : Nat) (hn1 : n1 ≤ 6) (bs : ByteArray) (p : Int) (w : World) (h8 : bs.size ≤ 8000) (h0 : 0 ≤ p) (h1 : p ≤ bs.size) (hsu : IsShs w (.slice p3 1 m3) [y]) :
    Calls Tryz.prog 69 #[.agg #[.int .i64 6, .slice p1 n1 m1, .slice p2 n2 m2, .slice p3 1 m3], .string bs, .int .i64 p] w
      (UnpPost w (if (readN bs p 6).2.2 ≠ 0 then (zeroVa, 0, (readN bs p 6).2.2) else itemsU 6 (seqU (List.replicate (readN bs p 6).1.toNat (unB bs y)) (readN bs p 6).2.1))) := by
  obtain ⟨⟨n, q, c⟩, hX⟩ : ∃ X : Int × Int × Int, getRes bs p = X := ⟨_, rfl⟩
  have HNm := Lib.hid (num_parts bs p n q c h8 h0 h1 hX)
  rw [readN_parts hX]
  have hq : c = 0 → 0 ≤ q ∧ q ≤ bs.size := fun hc => by have := res_place (s := bs) (p := p) (by rw [hX]; exact hc); rw [hX] at this; exact this
  obtain ⟨r, hr⟩ : ∃ r : UnR, (if (if c ≠ 0 then ((0 : Int), (0 : Int), c) else if n < 0 ∨ 6 < n then (0, 0, 3) else (n, q, 0)).2.2 ≠ 0 then (zeroVa, (0 : Int), (if c ≠ 0 then ((0 : Int), (0 : Int), c) else if n < 0 ∨ 6 < n then (0, 0, 3) else (n, q, 0)).2.2) else itemsU 6 (seqU (List.replicate (if c ≠ 0 then ((0 : Int), (0 : Int), c) else if n < 0 ∨ 6 < n then (0, 0, 3) else (n, q, 0)).1.toNat (unB bs y)) (if c ≠ 0 then ((0 : Int), (0 : Int), c) else if n < 0 ∨ 6 < n then (0, 0, 3) else (n, q, 0)).2.1)) = r := ⟨_, rfl⟩
  rw [hr]
  have HR := Lib.hid hr
  have HSu := Lib.hid hsu
  have HY := Lib.hid hy
  have IH := Lib.hid ih
  obtain ⟨W, hW⟩ : ∃ W, W = (((w.alloc (.cells #[.int .i64 6, .slice p1 n1 m1, .slice p2 n2 m2, .slice p3 1 m3] 26)).alloc (.cells #[.int .i64 0, .int .i64 0, .string ⟨#[]⟩, .slice none 0 0, .int .i64 0, .int .i64 0] 50)).alloc (.cells #[.int .i64 6, .int .i64 0, .string ⟨#[]⟩, .slice none 0 0] 29)) := ⟨_, rfl⟩
  have hT := three_at w 6 p1 p2 p3 n1 n2 1 m1 m2 m3
  rw [← hW] at hT
  have HT := Lib.hid hT
  have HW := Lib.hid hW
  have HQ := Lib.hid hq
  clear hX hr hT hW h0 h1 hq ih hsu hy
  have hw1 : IntKind.i64.wrap ((n1 : Int) - 1) = (n1 : Int) - 1 := IntWalk.i64_in _ (by omega)
  obtain ⟨a0, a1, a2, a3, _, _, _, _, az⟩ := blk4 HT.out.sh
  obtain ⟨_, _, _, _, _, _, _, _, _, _, _, _, bz⟩ := blk6 HT.out.out
  obtain ⟨d0, d1, d2, d3, _, _, _, _, dz⟩ := blk4 HT.out.va
  go_enter Tryz.func69, Tryz.ntmps69
  go_wp2_with fail
  rw [← HW.out]
  refine (HNm.out W).mono ?_
  rintro e w1 ⟨rfl, hb1⟩
  have T1 := Lib.hid (HT.out.later hb1)
  have B1 := Lib.hid T1.out.below
  have HBA := Lib.hid (below_alloc w1)
  have HBB := Lib.hid (fun o1 o2 => (below_alloc w1 o1).alloc (by simp) o2)
  clear hb1 a0 a1 a2 a3 az bz d0 d1 d2 d3 dz
  obtain ⟨a0, a1, a2, a3, _, _, _, _, az⟩ := blk4 T1.out.sh
  obtain ⟨_, _, _, _, _, _, _, _, _, _, _, _, bz⟩ := blk6 T1.out.out
  obtain ⟨d0, d1, d2, d3, e0, e1, e2, e3, dz⟩ := blk4 T1.out.va
  by_cases hc : c = 0
  · subst hc
    by_cases hn0 : 0 ≤ n
    · by_cases hn1' : n ≤ 6
      · obtain ⟨jj, rfl⟩ := Int.eq_ofNat_of_zero_le hn0
        have hj6 : jj ≤ 6 := by omega
        go_wp2_with fail
        refine (l02Is_any jj 0 6 _).mono ?_
        rintro e w' ⟨rfl, rfl⟩
        rw [decide_eq_true hn0, decide_eq_true hn1']
        go_wp2_with fail
        obtain ⟨wz, hwz⟩ : ∃ wz, wz = (w1.alloc (.cells #[.int .i64 jj, .int .i64 q, .int .i64 0] 170)).alloc (.cells #[.int .i64 0, .int .i64 1, .int .i64 1000000, .int .i64 0, .int .i64 ((n1 : Int) - 1), .int .i64 1, .int .i64 6] 2) := ⟨_, rfl⟩
        have hM : Mid w wz 6 0 ⟨#[]⟩ := by rw [hwz]; exact (T1.out.mid.alloc _).alloc _
        rw [← hwz]
        have HM := Lib.hid hM
        clear hM hwz a0 a1 a2 a3 d0 d1 d2 d3 e0 e1 e2 e3 az bz dz
        have HQ' : Hid (0 ≤ q ∧ q ≤ bs.size) := HQ.out (by first | rfl | trivial)
        have hg : ∀ i (h : i < (List.replicate jj (unB bs y)).length), ∃ (j : Nat) (hj : j < [y].length), (if (i : Int) < ([y].length : Int) - 1 then (i : Int) else ([y].length : Int) - 1) = j ∧ (List.replicate jj (unB bs y))[i] = unB bs [y][j] := by
          intro i h
          refine ⟨0, by simp, ?_, by simp⟩
          rw [if_neg (by first | (simp; done) | (simp; omega))]; simp
        refine (items_any d IH.out [y] (by simp [HY.out]) p3 m3 jj bs q wz (List.replicate jj (unB bs y)) (by simp) hj6 (by simp) hg h8 HQ'.out.1 HQ'.out.2 (HSu.out.keep (Keeps.of_below HM.out.below))).mono ?_
        obtain ⟨R, hR⟩ : ∃ R, seqU (List.replicate jj (unB bs y)) q = R := ⟨_, rfl⟩
        have HRR := Lib.hid hR
        rw [hR]
        clear hR hg
        rintro e w5 ⟨k5, n5, t5, q5, l5, m5, F5, rfl, ho5, hn5, hb5⟩
        have M5 := Lib.hid (HM.out.later hb5)
        have HO5 := Lib.hid ho5
        have HZ5 : Hid (w.heap.size + 1 + 1 < wz.heap.size) := (Array.getElem?_eq_some_iff.1 HM.out.va).1
        clear hb5 ho5
        have e0' : r = itemsU 6 R := by rw [← HR.out, if_neg (show ¬ ((0 : Int) ≠ 0) by simp), if_neg (show ¬ ((jj : Int) < 0 ∨ 6 < (jj : Int)) by omega), if_neg (by simp)]; simp only [Int.toNat_natCast]; rw [HRR.out]
        by_cases hc2 : R.2.2 = 0
        · have eX : itemsU 0 R = (.mk 0 0 ⟨#[]⟩ R.1, R.2.1, 0) := by unfold itemsU; rw [if_neg (fun h => h hc2)]
          have e1 : r = (.mk 6 0 ⟨#[]⟩ R.1, R.2.1, 0) := by rw [e0']; unfold itemsU; rw [if_neg (fun h => h hc2)]
          rw [eX] at HO5 ⊢
          clear e0' eX
          obtain ⟨b0, b1, b2, b3, b4, b5, f0, f1, f2, f3, f4, f5, bz⟩ := blk6 M5.out.out
          obtain ⟨d0, d1, d2, d3, e0, e1, e2, e3, dz⟩ := blk4 M5.out.va
          go_wp2_with fail
          have HF := Lib.hid (M5.out.fin q5 l5 m5 R.2.1 (.cells #[.int .i64 6, .int .i64 0, .string ⟨#[]⟩, .slice q5 l5 m5, .int .i64 R.2.1, .int .i64 0] 50))
          have HE := Lib.hid (M5.out.end HO5.out hn5 HZ5.out (by unfold InI64'; omega) (by unfold InI64'; omega) (by decide) R.2.1 (.cells #[.int .i64 6, .int .i64 0, .string ⟨#[]⟩, .slice q5 l5 m5, .int .i64 R.2.1, .int .i64 0] 50))
          unfold putU putV at HF HE
          clear b0 b1 b2 b3 b4 b5 f0 f1 f2 f3 f4 f5 bz d0 d1 d2 d3 e0 e1 e2 e3 dz
          obtain ⟨b0, b1, b2, b3, b4, b5, f0, f1, f2, f3, f4, f5, bz⟩ := blk6 HF.out
          refine bodyPost_ret (v := .agg #[.int .i64 6, .int .i64 0, .string ⟨#[]⟩, .slice q5 l5 m5, .int .i64 R.2.1, .int .i64 0]) (by simp [results, Tryz.results69, go_sem, b0, b1, b2, b3, b4, b5]) rfl ?_
        
          rw [e1]
          exact HE.out
        · obtain ⟨c2, hcc⟩ : ∃ c2, R.2.2 = c2 := ⟨_, rfl⟩
          rw [hcc] at hc2
          have eX : itemsU 0 R = (zeroVa, 0, c2) := by unfold itemsU; rw [hcc, if_pos hc2]
          have e1 : r = (zeroVa, 0, c2) := by rw [e0']; unfold itemsU; rw [hcc, if_pos hc2]
          rw [eX] at HO5 ⊢
          clear e0' eX hcc
          obtain ⟨b0, b1, b2, b3, b4, b5, f0, f1, f2, f3, f4, f5, bz⟩ := blk6 M5.out.out
          go_wp2_with fail
          have HF := Lib.hid (M5.out.bad k5 n5 t5 q5 l5 m5 c2 (.cells #[.int .i64 k5, .int .i64 n5, .string t5, .slice q5 l5 m5, .int .i64 0, .int .i64 c2] 50))
          have HE := Lib.hid (M5.out.end_bad HO5.out hn5 HZ5.out c2 (.cells #[.int .i64 k5, .int .i64 n5, .string t5, .slice q5 l5 m5, .int .i64 0, .int .i64 c2] 50))
          unfold putU putV at HF HE
          clear b0 b1 b2 b3 b4 b5 f0 f1 f2 f3 f4 f5 bz
          obtain ⟨b0, b1, b2, b3, b4, b5, f0, f1, f2, f3, f4, f5, bz⟩ := blk6 HF.out
          refine bodyPost_ret (v := .agg #[.int .i64 k5, .int .i64 n5, .string t5, .slice q5 l5 m5, .int .i64 0, .int .i64 c2]) (by simp [results, Tryz.results69, go_sem, b0, b1, b2, b3, b4, b5]) rfl ?_
          rw [e1]
          exact HE.out
      · have e1 : r = (zeroVa, 0, 3) := by rw [← HR.out]; simp [show (n < 0 ∨ 6 < n) by omega]
        go_wp2_with fail
        refine (l02Is_any n 0 6 _).mono ?_
        rintro e w' ⟨rfl, rfl⟩
        rw [decide_eq_true hn0, decide_eq_false (p := n ≤ 6) (by omega)]
        go_wp2_with fail
        refine (ill_any 3 _).mono ?_
        rintro e w4 ⟨rfl, hb4⟩
        have B4 := Lib.hid (B1.out.trans (((HBB.out _ _).trans (hb4.mono (by simp; omega))).mono B1.out.size))
        have D2 := blk_below T1.out.out ((HBB.out _ _).trans (hb4.mono (by simp; omega))) bz
        obtain ⟨x0, x1, x2, x3, x4, x5, v0, v1, v2, v3, v4, v5, xz⟩ := blk6 D2
        clear hb4 D2
        go_wp2_with fail
        refine bodyPost_ret (v := .agg #[.int .i64 0, .int .i64 0, .string ⟨#[]⟩, .slice none 0 0, .int .i64 0, .int .i64 3]) (by simp [results, Tryz.results69, go_sem, x0, x1, x2, x3, x4, x5]) rfl ?_
        rw [e1]
        exact unp_end B4.out (own_zero _ _) (by simp) List.nodup_nil
    · have e1 : r = (zeroVa, 0, 3) := by rw [← HR.out]; simp [show (n < 0 ∨ 6 < n) by omega]
      go_wp2_with fail
      refine (l02Is_any n 0 6 _).mono ?_
      rintro e w' ⟨rfl, rfl⟩
      rw [decide_eq_false (p := 0 ≤ n) (by omega)]
      go_wp2_with fail
      refine (ill_any 3 _).mono ?_
      rintro e w4 ⟨rfl, hb4⟩
      have B4 := Lib.hid (B1.out.trans (((HBB.out _ _).trans (hb4.mono (by simp; omega))).mono B1.out.size))
      have D2 := blk_below T1.out.out ((HBB.out _ _).trans (hb4.mono (by simp; omega))) bz
      obtain ⟨x0, x1, x2, x3, x4, x5, v0, v1, v2, v3, v4, v5, xz⟩ := blk6 D2
      clear hb4 D2
      go_wp2_with fail
      refine bodyPost_ret (v := .agg #[.int .i64 0, .int .i64 0, .string ⟨#[]⟩, .slice none 0 0, .int .i64 0, .int .i64 3]) (by simp [results, Tryz.results69, go_sem, x0, x1, x2, x3, x4, x5]) rfl ?_
      rw [e1]
      exact unp_end B4.out (own_zero _ _) (by simp) List.nodup_nil
  · have e1 : r = (zeroVa, 0, c) := by rw [← HR.out]; simp [hc]
    go_wp2_with fail
    refine (ill_any c _).mono ?_
    rintro e w4 ⟨rfl, hb4⟩
    have B4 := Lib.hid (B1.out.trans (((HBA.out _).trans (hb4.mono (by simp))).mono B1.out.size))
    have D2 := blk_below T1.out.out ((HBA.out _).trans (hb4.mono (by simp))) bz
    obtain ⟨x0, x1, x2, x3, x4, x5, v0, v1, v2, v3, v4, v5, xz⟩ := blk6 D2
    clear hb4 D2
    go_wp2_with fail
    refine bodyPost_ret (v := .agg #[.int .i64 0, .int .i64 0, .string ⟨#[]⟩, .slice none 0 0, .int .i64 0, .int .i64 c]) (by simp [results, Tryz.results69, go_sem, x0, x1, x2, x3, x4, x5]) rfl ?_
    rw [e1]
    exact unp_end B4.out (own_zero _ _) (by simp) List.nodup_nil
end Go.Proofs.YtbpidhlpakobiaaGreatDoor
namespace Go.Proofs.YtbpidhlpakobiaaGreatDoor
open Go.RowKit

set_option maxRecDepth 100000 in
set_option maxHeartbeats 4000000 in
theorem su_rec (d : Nat) (ih : SuAt d) (su : List Sh) (hy : ∀ x ∈ su, partOk d x = true) (hl6 : su.length ≤ 6) (p1 p2 p3 : Option Addr) (n1 n2 m1 m2 m3 : Nat) (bs : ByteArray) (p : Int) (w : World) (h8 : bs.size ≤ 8000) (h0 : 0 ≤ p) (h1 : p ≤ bs.size) (hsu : IsShs w (.slice p3 su.length m3) su) :
    Calls Tryz.prog 69 #[.agg #[.int .i64 7, .slice p1 n1 m1, .slice p2 n2 m2, .slice p3 su.length m3], .string bs, .int .i64 p] w
      (UnpPost w (itemsU 7 (seqU (su.map (unB bs)) p))) := by
  have IH := Lib.hid ih
  have HSu := Lib.hid hsu
  have HY := Lib.hid hy
  have HPl := Lib.hid (And.intro h0 h1)
  obtain ⟨W, hW⟩ : ∃ W, W = (((w.alloc (.cells #[.int .i64 7, .slice p1 n1 m1, .slice p2 n2 m2, .slice p3 su.length m3] 26)).alloc (.cells #[.int .i64 0, .int .i64 0, .string ⟨#[]⟩, .slice none 0 0, .int .i64 0, .int .i64 0] 50)).alloc (.cells #[.int .i64 7, .int .i64 0, .string ⟨#[]⟩, .slice none 0 0] 29)) := ⟨_, rfl⟩
  have hT := three_at w 7 p1 p2 p3 n1 n2 su.length m1 m2 m3
  rw [← hW] at hT
  have HT := Lib.hid hT
  have HW := Lib.hid hW
  have HM := Lib.hid hT.mid
  obtain ⟨R, hR⟩ : ∃ R, seqU (su.map (unB bs)) p = R := ⟨_, rfl⟩
  rw [hR]
  have HRR := Lib.hid hR
  clear hR hT hW h0 h1 ih hsu hy
  go_enter Tryz.func69, Tryz.ntmps69
  go_wp2_with fail
  rw [← HW.out]
  have hg : ∀ i (h : i < (su.map (unB bs)).length), ∃ (j : Nat) (hj : j < su.length), (if (i : Int) < (su.length : Int) - 1 then (i : Int) else (su.length : Int) - 1) = j ∧ (su.map (unB bs))[i] = unB bs su[j] := by
    intro i h
    rw [List.length_map] at h
    refine ⟨i, h, ?_, by simp⟩
    split <;> omega
  refine (items_any d IH.out su HY.out p3 m3 su.length bs p W (su.map (unB bs)) (by simp) hl6 hl6 hg h8 HPl.out.1 HPl.out.2 (HSu.out.keep (Keeps.of_below HM.out.below))).mono ?_
  rw [HRR.out]
  clear hg
  rintro e w5 ⟨k5, n5, t5, q5, l5, m5, F5, rfl, ho5, hn5, hb5⟩
  have M5 := Lib.hid (HM.out.later hb5)
  have HO5 := Lib.hid ho5
  have HZ5 : Hid (w.heap.size + 1 + 1 < W.heap.size) := (Array.getElem?_eq_some_iff.1 HM.out.va).1
  clear hb5 ho5
  by_cases hc2 : R.2.2 = 0
  · have eX : itemsU 0 R = (.mk 0 0 ⟨#[]⟩ R.1, R.2.1, 0) := by unfold itemsU; rw [if_neg (fun h => h hc2)]
    have e1 : itemsU 7 R = (.mk 7 0 ⟨#[]⟩ R.1, R.2.1, 0) := by unfold itemsU; rw [if_neg (fun h => h hc2)]
    rw [eX] at HO5 ⊢
    clear eX
    obtain ⟨b0, b1, b2, b3, b4, b5, f0, f1, f2, f3, f4, f5, bz⟩ := blk6 M5.out.out
    obtain ⟨d0, d1, d2, d3, e0, e1, e2, e3, dz⟩ := blk4 M5.out.va
    go_wp2_with fail
    have HF := Lib.hid (M5.out.fin q5 l5 m5 R.2.1 (.cells #[.int .i64 7, .int .i64 0, .string ⟨#[]⟩, .slice q5 l5 m5, .int .i64 R.2.1, .int .i64 0] 50))
    have HE := Lib.hid (M5.out.end HO5.out hn5 HZ5.out (by unfold InI64'; omega) (by unfold InI64'; omega) (by decide) R.2.1 (.cells #[.int .i64 7, .int .i64 0, .string ⟨#[]⟩, .slice q5 l5 m5, .int .i64 R.2.1, .int .i64 0] 50))
    unfold putU putV at HF HE
    clear b0 b1 b2 b3 b4 b5 f0 f1 f2 f3 f4 f5 bz d0 d1 d2 d3 e0 e1 e2 e3 dz
    obtain ⟨b0, b1, b2, b3, b4, b5, f0, f1, f2, f3, f4, f5, bz⟩ := blk6 HF.out
    refine bodyPost_ret (v := .agg #[.int .i64 7, .int .i64 0, .string ⟨#[]⟩, .slice q5 l5 m5, .int .i64 R.2.1, .int .i64 0]) (by simp [results, Tryz.results69, go_sem, b0, b1, b2, b3, b4, b5]) rfl ?_
  
    rw [e1]
    exact HE.out
  · obtain ⟨c2, hcc⟩ : ∃ c2, R.2.2 = c2 := ⟨_, rfl⟩
    rw [hcc] at hc2
    have eX : itemsU 0 R = (zeroVa, 0, c2) := by unfold itemsU; rw [hcc, if_pos hc2]
    have e1 : itemsU 7 R = (zeroVa, 0, c2) := by unfold itemsU; rw [hcc, if_pos hc2]
    rw [eX] at HO5 ⊢
    clear eX hcc
    obtain ⟨b0, b1, b2, b3, b4, b5, f0, f1, f2, f3, f4, f5, bz⟩ := blk6 M5.out.out
    go_wp2_with fail
    have HF := Lib.hid (M5.out.bad k5 n5 t5 q5 l5 m5 c2 (.cells #[.int .i64 k5, .int .i64 n5, .string t5, .slice q5 l5 m5, .int .i64 0, .int .i64 c2] 50))
    have HE := Lib.hid (M5.out.end_bad HO5.out hn5 HZ5.out c2 (.cells #[.int .i64 k5, .int .i64 n5, .string t5, .slice q5 l5 m5, .int .i64 0, .int .i64 c2] 50))
    unfold putU putV at HF HE
    clear b0 b1 b2 b3 b4 b5 f0 f1 f2 f3 f4 f5 bz
    obtain ⟨b0, b1, b2, b3, b4, b5, f0, f1, f2, f3, f4, f5, bz⟩ := blk6 HF.out
    refine bodyPost_ret (v := .agg #[.int .i64 k5, .int .i64 n5, .string t5, .slice q5 l5 m5, .int .i64 0, .int .i64 c2]) (by simp [results, Tryz.results69, go_sem, b0, b1, b2, b3, b4, b5]) rfl ?_
    rw [e1]
    exact HE.out
end Go.Proofs.YtbpidhlpakobiaaGreatDoor
