/- Walks: impl.appendMaybe, impl.appendList, impl.appendRec. -/
import Derived.Test.YtflpfphfoibggaaDoorAvT
namespace Go.Proofs.YtflpfphfoibggaaDoor
open Go.RowKit

/-- impl.appendVal's contract at what fits right shapes of so many levels. -/
def AvAt (d : Nat) : Prop := ∀ (t : Sh) (x : Va) (w0 w : World) (v u ux : Value) (l : List UInt8), partOk d t = true → fitB t x = true → IsSh w0 t u → IsVa w0 x ux → Below w0.heap.size w0 w → OwnB w w0.heap.size v l → l.length + capT d ≤ 1099511627776 → TabAt w0.heap.size w0 →
  Calls Tryd.prog 74 #[v, u, ux] w (AvPost w0 w (l ++ x.txt))

theorem fitOne_at {su : List Sh} (h : 0 < su.length) (v : Va) : fitOne su v = fitB su[0] v := by
  cases su with
  | nil => cases h
  | cons s l => rfl
theorem fitOne_pos {su : List Sh} {v : Va} (h : fitOne su v = true) : 0 < su.length := by
  cases su with
  | nil => simp [fitOne] at h
  | cons s l => simp
theorem fitZip_at : ∀ {su : List Sh} {it : List Va} (_ : fitZip su it = true) (j : Nat) (h1 : j < su.length) (h2 : j < it.length), fitB su[j] it[j] = true
  | [], _, _, _, h1, _ => by cases h1
  | _ :: _, [], _, _, _, h2 => by cases h2
  | s :: l, v :: m, h, 0, _, _ => by
    simp only [fitZip, Bool.and_eq_true] at h
    exact h.1
  | s :: l, v :: m, h, j + 1, h1, h2 => by
    simp only [fitZip, Bool.and_eq_true] at h
    exact fitZip_at h.2 j (by simpa using h1) (by simpa using h2)
theorem row_len {b : Nat} {l : List Va} (h : ∀ x ∈ l, x.txt.length ≤ b) (j : Nat) : (joinC ((Va.txts l).take j)).length ≤ j * (b + 1) := by
  have := joinC_len b ((Va.txts l).take j) fun a ha => txts_le b l h a (List.mem_of_mem_take ha)
  refine Nat.le_trans this (Nat.mul_le_mul_right _ ?_)
  rw [List.length_take]; omega
theorem row_step {it : List Va} {k : Nat} (h : k < it.length) {b L : List UInt8} (hL : L = b ++ joinC ((Va.txts it).take k)) :
    (if k = 0 then L else L ++ [44]) ++ it[k].txt = b ++ joinC ((Va.txts it).take (k + 1)) := by
  rw [txts_take it k h, joinC_snoc, hL]
  by_cases h0 : k = 0
  · subst h0; simp [joinC]
  · have : ¬ (Va.txts it).take k = [] := by
      intro he
      have := congrArg List.length he
      rw [List.length_take, txts_len, Nat.min_eq_left (by omega)] at this
      simp at this
      omega
    rw [if_neg this, if_neg h0]; simp

set_option maxRecDepth 100000 in
set_option maxHeartbeats 2000000 in
theorem al_any (d : Nat) (ih : AvAt d) (w0 w : World) (v : Value) (l : List UInt8) (p1 p2 p3 p4 : Option Addr) (n1 n2 m1 m2 m3 m4 : Nat) (su : List Sh) (it : List Va)
    (hsu : IsShs w0 (.slice p3 su.length m3) su) (hit : IsVas w0 (.slice p4 it.length m4) it) (h6 : it.length ≤ 6) (hp : su.all (partOk d) = true) (hf : it.all (fitOne su) = true) (htx : ∀ x ∈ it, x.txt.length ≤ capT d)
    (hb : Below w0.heap.size w0 w) (ho : OwnB w w0.heap.size v l) (hl : l.length + capT (d + 1) ≤ 1099511627776) (htab : TabAt w0.heap.size w0) :
    Calls Tryd.prog 102 #[v, .agg #[.int .i64 6, .slice p1 n1 m1, .slice p2 n2 m2, .slice p3 su.length m3], .slice p4 it.length m4] w (AvPost w0 w (l ++ 91 :: (joinC (Va.txts it) ++ [93]))) := by
  obtain ⟨a3, cap3, e3, _, hc3, g3⟩ := hsu
  simp only [Value.slice.injEq] at e3
  obtain ⟨rfl, _, rfl⟩ := e3
  obtain ⟨a4, cap4, e4, _, hc4, g4⟩ := hit
  simp only [Value.slice.injEq] at e4
  obtain ⟨rfl, _, rfl⟩ := e4
  simp only [capT] at hl
  have H3 := Lib.hid g3
  have H4 := Lib.hid g4
  have HP := Lib.hid hp
  have HF := Lib.hid hf
  have HTX := Lib.hid (row_len htx)
  have HTY := Lib.hid htx
  have HTAB := Lib.hid htab
  have IH := Lib.hid ih
  obtain ⟨p, n, m, rfl⟩ := ho.slice
  obtain ⟨W, hW⟩ : ∃ W, W = w.alloc (.cells #[.int .i64 6, .slice p1 n1 m1, .slice p2 n2 m2, .slice p3 su.length m3] 103) := ⟨_, rfl⟩
  have hbW : Below w.heap.size w W := by rw [hW]; exact below_alloc w _
  have HXO := Lib.hid (show W.heap[w.heap.size]? = some (.cells #[.int .i64 6, .slice p1 n1 m1, .slice p2 n2 m2, .slice p3 su.length m3] 103) by rw [hW]; exact Go.Deep.blk_alloc_new _ _)
  have HO := Lib.hid (own_block (w' := W) ho fun g hg => hbW.block g (blkOf_own ho g hg).2)
  have HB := Lib.hid (hb.trans (hbW.mono hb.size))
  have HS := Lib.hid hbW.size
  have HK := Lib.hid (KeptO.below hbW)
  have HW := Lib.hid hW
  have HWS : Hid (W.heap.size = w.heap.size + 1) := by show _ = _; rw [hW]; simp
  clear g3 g4 hp hf htx htab ih ho hb hbW hW
  go_enter Tryd.func102, Tryd.ntmps102
  go_wp2_with (at_builtin; go_must (rw [← HW.out, ← HWS.out]; refine wpList_byteK W rfl (.tmp 9) (.tmp 10) rfl w0.heap.size (.slice p n m) l 91 91 rfl HO.out rfl rfl (by omega) HB.out.size ?_))
  intro v' w1 hv' hb1 hk1
  obtain ⟨p', n', m', rfl⟩ := hv'.slice
  obtain ⟨B, hB⟩ : ∃ B, B = l ++ [91] := ⟨_, rfl⟩
  rw [← hB] at hv'
  have HBB := Lib.hid hB
  have HBL : Hid (B.length = l.length + 1) := by show _ = _; rw [hB, List.length_append]; rfl
  have HP1 := Lib.hid hv'
  have HB1 := Lib.hid (hb1 _ _ HB.out (Nat.le_refl _))
  have HZ1 := Lib.hid (Nat.le_trans HS.out (hb1 0 W (Below.refl _ _) (Nat.zero_le _)).size)
  have HK1 := Lib.hid (HK.out.trans hk1.o)
  have HKx1 := Lib.hid hk1.o
  clear hv' hb1 hk1 hB
  go_wp2_with fail
  go_loopw [0, 14] (fun o i wr => ∃ (k : Nat) (p : Option Addr) (n m : Nat) (L : List UInt8), k ≤ it.length ∧ i = .int .i64 k ∧ o = .slice p n m ∧ Hid (L = B ++ joinC ((Va.txts it).take k)) ∧ Hid (OwnB wr w0.heap.size (.slice p n m) L) ∧ Hid (Below w0.heap.size w0 wr) ∧ Hid (w.heap.size ≤ wr.heap.size) ∧ Hid (KeptO W wr)) (fun _ i _ => it.length - (intOf i).toNat)
  case atStart => exact ⟨0, p', n', m', B, Nat.zero_le _, rfl, rfl, by show _ = _; simp [joinC], HP1.out, HB1.out, HZ1.out, HKx1.out⟩
  case round =>
    obtain ⟨k, p, n, m, L, hk, rfl, rfl, HE, HPr, HBr, HZ, HKx⟩ := hrel
    by_cases hlt : k < it.length
    · have hlu : 0 < su.length := fitOne_pos (List.all_eq_true.1 HF.out it[k] (List.getElem_mem hlt))
      have HFk : Hid (fitB su[0] it[k] = true) := by have := List.all_eq_true.1 HF.out it[k] (List.getElem_mem hlt); rwa [fitOne_at hlu] at this
      have HPk := Lib.hid (List.all_eq_true.1 HP.out su[0] (List.getElem_mem hlu))
      obtain ⟨b, off, rfl, c0, c1, c2, c3, s0, s1, s2, s3, s4⟩ := IsShs.at H3.out hlu
      obtain ⟨q1, i1, j1, q2, i2, j2, q3, i3, j3, rfl, rfl, rfl, rfl⟩ := s4.cells
      obtain ⟨b', off', rfl, d0, d1, d2, d3, g0, g1, g2, g3, g4⟩ := IsVas.at H4.out hlt
      obtain ⟨q4, j4, rfl, rfl, rfl, rfl⟩ := g4.cells
      simp only [Nat.zero_mul, Nat.add_zero] at s0 s1 s2 s3
      have HS0 := Lib.hid (And.intro s0 (And.intro s1 (And.intro s2 s3)))
      have HS4 := Lib.hid s4
      have HG4 := Lib.hid g4
      have hKp := Keeps.of_below HBr.out
      have y0 := hKp _ _ _ g0
      have y1 := hKp _ _ _ g1
      have y2 := hKp _ _ _ g2
      have y3 := hKp _ _ _ g3
      have hwl : w.heap.size < wr.heap.size := (blk4 (KeptO.blk HKx.out (by decide) HXO.out)).2.2.2.2.2.2.2.2
      have HLen : Hid (L.length ≤ l.length + 1 + 5 * (capT d + 1)) := by show _ ≤ _; rw [HE.out, List.length_append]; have := HTX.out k; have := Nat.mul_le_mul_right (capT d + 1) (show k ≤ 5 by omega); have := HBL.out; omega
      obtain ⟨T, hT⟩ : ∃ T, T = wr.alloc (.cells #[.int .i64 it[k].kd, .int .i64 it[k].nn, .string it[k].tx, .slice q4 it[k].it.length j4] 55) := ⟨_, rfl⟩
      have hbT : Below wr.heap.size wr T := by rw [hT]; exact below_alloc wr _
      have HT8 := Lib.hid (show T.heap[wr.heap.size]? = some (.cells #[.int .i64 it[k].kd, .int .i64 it[k].nn, .string it[k].tx, .slice q4 it[k].it.length j4] 55) by rw [hT]; exact Go.Deep.blk_alloc_new _ _)
      have HPT := Lib.hid (own_block (w' := T) HPr.out fun g hg => hbT.block g (blkOf_own HPr.out g hg).2)
      have HBT := Lib.hid (HBr.out.trans (hbT.mono HBr.out.size))
      have HZT := Lib.hid (Nat.le_trans HZ.out hbT.size)
      have HKT := Lib.hid (HKx.out.trans (KeptO.below hbT))
      have HTT := Lib.hid hT
      have HTS : Hid (T.heap.size = wr.heap.size + 1) := by show _ = _; rw [hT]; simp
      clear s0 s1 s2 s3 s4 g0 g1 g2 g3 g4 hKp hbT hT
      by_cases h0 : k = 0
      · have HJ := Lib.hid (row_step hlt HE.out)
        have b0 : (k : Int) ≤ 0 := by omega
        have HK0 := Lib.hid h0
        clear h0
        go_wp2_with fail
        rw [← HTT.out]
        have HP9 := HPT
        have HK9x := HKT
        have HK9 : Hid (KeptO w T) := HK.out.trans HKT.out
        have HZ9 := HZT
        have HL9 : Hid (L.length ≤ l.length + 2 + 5 * (capT d + 1)) := Nat.le_trans HLen.out (by omega)
        obtain ⟨x0, x1, x2, x3, _, _, _, _, xz⟩ := blk4 (KeptO.blk HKT.out (by decide) HXO.out)
        obtain ⟨t0, t1, t2, t3, _, _, _, _, tz⟩ := blk4 HT8.out
        have z0 := Keeps.of_below HBT.out _ _ _ HS0.out.1
        have z1 := Keeps.of_below HBT.out _ _ _ HS0.out.2.1
        have z2 := Keeps.of_below HBT.out _ _ _ HS0.out.2.2.1
        have z3 := Keeps.of_below HBT.out _ _ _ HS0.out.2.2.2
        clear y0 y1 y2 y3
        go_region_law (go_simp; go_at_call 74; refine (IH.out su[0] it[k] w0 _ _ _ _ _ HPk.out HFk.out HS4.out HG4.out (show Below w0.heap.size w0 T.drew from HBT.out.drew) (own_block (w' := T.drew) HP9.out fun _ _ => rfl) (by have := HL9.out; omega) HTAB.out).mono ?_; rintro e w6 ⟨p6, n6, m6, rfl, hp6, hb6, hz6, hk6⟩; have HK6 := Lib.hid (HK9.out.trans hk6); have HQ6 := Lib.hid (HK9x.out.trans hk6); have HP6 := Lib.hid hp6; have HB6 := Lib.hid hb6; have HZ6 := Lib.hid (Nat.le_trans HZ9.out hz6); clear hp6 hb6 hz6 hk6)
        all_goals
          go_wp2_with fail
          go_roundw
          case rel => exact ⟨k + 1, p6, n6, m6, _, hlt, by go_num, rfl, by show _ = _; rw [← HJ.out, if_pos HK0.out], HP6.out, HB6.out, HZ6.out, by show KeptO _ _; exact HQ6.out⟩
          case measure => simp [intOf]; omega
      · have HJ := Lib.hid (row_step hlt HE.out)
        have b0 : (0 : Int) < (k : Int) := by omega
        have HK0 := Lib.hid h0
        clear h0
        go_wp2_with (at_builtin; go_must (rw [← HTT.out, ← HTS.out]; refine wpList_byteK T rfl (.tmp 21) (.tmp 22) rfl w0.heap.size (.slice p n m) L 44 44 rfl HPT.out rfl rfl (by have := HLen.out; omega) HBT.out.size ?_))
        intro v' w9 hv' hb9 hk9
        obtain ⟨p9, n9, m9, rfl⟩ := hv'.slice
        obtain ⟨L9, hL9⟩ : ∃ L9, L9 = L ++ [44] := ⟨_, rfl⟩
        rw [← hL9] at hv'
        have HM9 := Lib.hid hL9
        have HP9 := Lib.hid hv'
        have HB9 := Lib.hid (hb9 _ _ HBT.out (Nat.le_refl _))
        have HZ9 : Hid (w.heap.size ≤ w9.heap.size) := Nat.le_trans HZT.out (hb9 0 T (Below.refl _ _) (Nat.zero_le _)).size
        have HK9x := Lib.hid (HKT.out.trans hk9.o)
        have HK9 : Hid (KeptO w w9) := HK.out.trans (HKT.out.trans hk9.o)
        have HL9 : Hid (L9.length ≤ l.length + 2 + 5 * (capT d + 1)) := by show _ ≤ _; rw [hL9, List.length_append]; have := HLen.out; simp; omega
        obtain ⟨x0, x1, x2, x3, _, _, _, _, xz⟩ := blk4 (KeptO.blk HK9x.out (by decide) HXO.out)
        obtain ⟨t0, t1, t2, t3, _, _, _, _, tz⟩ := blk4 (KeptO.blk hk9.o (by decide) HT8.out)
        have z0 := Keeps.of_below HB9.out _ _ _ HS0.out.1
        have z1 := Keeps.of_below HB9.out _ _ _ HS0.out.2.1
        have z2 := Keeps.of_below HB9.out _ _ _ HS0.out.2.2.1
        have z3 := Keeps.of_below HB9.out _ _ _ HS0.out.2.2.2
        clear hv' hb9 hk9 hL9 y0 y1 y2 y3
        go_wp2_with fail
        go_region_law (go_simp; go_at_call 74; refine (IH.out su[0] it[k] w0 _ _ _ _ _ HPk.out HFk.out HS4.out HG4.out (show Below w0.heap.size w0 w9.drew from HB9.out.drew) (own_block (w' := w9.drew) HP9.out fun _ _ => rfl) (by have := HL9.out; omega) HTAB.out).mono ?_; rintro e w6 ⟨p6, n6, m6, rfl, hp6, hb6, hz6, hk6⟩; have HK6 := Lib.hid (HK9.out.trans hk6); have HQ6 := Lib.hid (HK9x.out.trans hk6); have HP6 := Lib.hid hp6; have HB6 := Lib.hid hb6; have HZ6 := Lib.hid (Nat.le_trans HZ9.out hz6); clear hp6 hb6 hz6 hk6)
        all_goals
          go_wp2_with fail
          go_roundw
          case rel => exact ⟨k + 1, p6, n6, m6, _, hlt, by go_num, rfl, by show _ = _; rw [← HJ.out, if_neg HK0.out, ← HM9.out], HP6.out, HB6.out, HZ6.out, by show KeptO _ _; exact HQ6.out⟩
          case measure => simp [intOf]; omega
    · obtain rfl : k = it.length := by omega
      have HLen : Hid (L.length ≤ l.length + 1 + 6 * (capT d + 1)) := by show _ ≤ _; rw [HE.out, List.length_append]; have := HTX.out it.length; have := Nat.mul_le_mul_right (capT d + 1) h6; have := HBL.out; omega
      go_wp2_with (at_builtin; go_must (refine wpList_byteK wr rfl (.tmp 32) (.tmp 33) rfl w0.heap.size (.slice p n m) L 93 93 rfl HPr.out rfl rfl (by have := HLen.out; omega) HBr.out.size ?_))
      intro v' w9 hv' hb9 hk9
      obtain ⟨p9, n9, m9, rfl⟩ := hv'.slice
      have HP9 := Lib.hid hv'
      have HB9 := Lib.hid (hb9 _ _ HBr.out (Nat.le_refl _))
      have HZ9 : Hid (w.heap.size ≤ w9.heap.size) := Nat.le_trans HZ.out (hb9 0 wr (Below.refl _ _) (Nat.zero_le _)).size
      have HK9 : Hid (KeptO w w9) := HK.out.trans (HKx.out.trans hk9.o)
      clear hv' hb9 hk9
      go_wp2_with fail
      go_ret
      refine ⟨p9, n9, m9, rfl, ?_, HB9.out, HZ9.out, HK9.out⟩
      have h := HP9.out
      rw [HE.out, HBB.out, List.take_of_length_le (by rw [txts_len]; exact Nat.le_refl _)] at h
      simpa using h

set_option maxRecDepth 100000 in
set_option maxHeartbeats 2000000 in
theorem ar_any (d : Nat) (ih : AvAt d) (w0 w : World) (v : Value) (l : List UInt8) (p1 p2 p3 p4 : Option Addr) (n1 n2 m1 m2 m3 m4 : Nat) (su : List Sh) (it : List Va)
    (hsu : IsShs w0 (.slice p3 su.length m3) su) (hit : IsVas w0 (.slice p4 it.length m4) it) (h6 : it.length ≤ 6) (hp : su.all (partOk d) = true) (hf : fitZip su it = true) (htx : ∀ x ∈ it, x.txt.length ≤ capT d)
    (hb : Below w0.heap.size w0 w) (ho : OwnB w w0.heap.size v l) (hl : l.length + capT (d + 1) ≤ 1099511627776) (htab : TabAt w0.heap.size w0) :
    Calls Tryd.prog 103 #[v, .agg #[.int .i64 7, .slice p1 n1 m1, .slice p2 n2 m2, .slice p3 su.length m3], .slice p4 it.length m4] w (AvPost w0 w (l ++ 40 :: (joinC (Va.txts it) ++ [41]))) := by
  obtain ⟨a3, cap3, e3, _, hc3, g3⟩ := hsu
  simp only [Value.slice.injEq] at e3
  obtain ⟨rfl, _, rfl⟩ := e3
  obtain ⟨a4, cap4, e4, _, hc4, g4⟩ := hit
  simp only [Value.slice.injEq] at e4
  obtain ⟨rfl, _, rfl⟩ := e4
  simp only [capT] at hl
  have H3 := Lib.hid g3
  have H4 := Lib.hid g4
  have HP := Lib.hid hp
  have HF := Lib.hid hf
  have HTX := Lib.hid (row_len htx)
  have HTY := Lib.hid htx
  have HTAB := Lib.hid htab
  have IH := Lib.hid ih
  obtain ⟨p, n, m, rfl⟩ := ho.slice
  obtain ⟨W, hW⟩ : ∃ W, W = w.alloc (.cells #[.int .i64 7, .slice p1 n1 m1, .slice p2 n2 m2, .slice p3 su.length m3] 104) := ⟨_, rfl⟩
  have hbW : Below w.heap.size w W := by rw [hW]; exact below_alloc w _
  have HXO := Lib.hid (show W.heap[w.heap.size]? = some (.cells #[.int .i64 7, .slice p1 n1 m1, .slice p2 n2 m2, .slice p3 su.length m3] 104) by rw [hW]; exact Go.Deep.blk_alloc_new _ _)
  have HO := Lib.hid (own_block (w' := W) ho fun g hg => hbW.block g (blkOf_own ho g hg).2)
  have HB := Lib.hid (hb.trans (hbW.mono hb.size))
  have HS := Lib.hid hbW.size
  have HK := Lib.hid (KeptO.below hbW)
  have HW := Lib.hid hW
  have HWS : Hid (W.heap.size = w.heap.size + 1) := by show _ = _; rw [hW]; simp
  clear g3 g4 hp hf htx htab ih ho hb hbW hW
  go_enter Tryd.func103, Tryd.ntmps103
  go_wp2_with (at_builtin; go_must (rw [← HW.out, ← HWS.out]; refine wpList_byteK W rfl (.tmp 9) (.tmp 10) rfl w0.heap.size (.slice p n m) l 40 40 rfl HO.out rfl rfl (by omega) HB.out.size ?_))
  intro v' w1 hv' hb1 hk1
  obtain ⟨p', n', m', rfl⟩ := hv'.slice
  obtain ⟨B, hB⟩ : ∃ B, B = l ++ [40] := ⟨_, rfl⟩
  rw [← hB] at hv'
  have HBB := Lib.hid hB
  have HBL : Hid (B.length = l.length + 1) := by show _ = _; rw [hB, List.length_append]; rfl
  have HP1 := Lib.hid hv'
  have HB1 := Lib.hid (hb1 _ _ HB.out (Nat.le_refl _))
  have HZ1 := Lib.hid (Nat.le_trans HS.out (hb1 0 W (Below.refl _ _) (Nat.zero_le _)).size)
  have HK1 := Lib.hid (HK.out.trans hk1.o)
  have HKx1 := Lib.hid hk1.o
  clear hv' hb1 hk1 hB
  go_wp2_with fail
  go_loopw [0, 14] (fun o i wr => ∃ (k : Nat) (p : Option Addr) (n m : Nat) (L : List UInt8), k ≤ it.length ∧ i = .int .i64 k ∧ o = .slice p n m ∧ Hid (L = B ++ joinC ((Va.txts it).take k)) ∧ Hid (OwnB wr w0.heap.size (.slice p n m) L) ∧ Hid (Below w0.heap.size w0 wr) ∧ Hid (w.heap.size ≤ wr.heap.size) ∧ Hid (KeptO W wr)) (fun _ i _ => it.length - (intOf i).toNat)
  case atStart => exact ⟨0, p', n', m', B, Nat.zero_le _, rfl, rfl, by show _ = _; simp [joinC], HP1.out, HB1.out, HZ1.out, HKx1.out⟩
  case round =>
    obtain ⟨k, p, n, m, L, hk, rfl, rfl, HE, HPr, HBr, HZ, HKx⟩ := hrel
    by_cases hlt : k < it.length
    · have hlu : k < su.length := by have := fitZip_len _ _ HF.out; omega
      have HFk : Hid (fitB su[k] it[k] = true) := fitZip_at HF.out k hlu hlt
      have HPk := Lib.hid (List.all_eq_true.1 HP.out su[k] (List.getElem_mem hlu))
      obtain ⟨b, off, rfl, c0, c1, c2, c3, s0, s1, s2, s3, s4⟩ := IsShs.at H3.out hlu
      obtain ⟨q1, i1, j1, q2, i2, j2, q3, i3, j3, rfl, rfl, rfl, rfl⟩ := s4.cells
      obtain ⟨b', off', rfl, d0, d1, d2, d3, g0, g1, g2, g3, g4⟩ := IsVas.at H4.out hlt
      obtain ⟨q4, j4, rfl, rfl, rfl, rfl⟩ := g4.cells
      have HS0 := Lib.hid (And.intro s0 (And.intro s1 (And.intro s2 s3)))
      have HS4 := Lib.hid s4
      have HG4 := Lib.hid g4
      have hKp := Keeps.of_below HBr.out
      have y0 := hKp _ _ _ g0
      have y1 := hKp _ _ _ g1
      have y2 := hKp _ _ _ g2
      have y3 := hKp _ _ _ g3
      have hwl : w.heap.size < wr.heap.size := (blk4 (KeptO.blk HKx.out (by decide) HXO.out)).2.2.2.2.2.2.2.2
      have HLen : Hid (L.length ≤ l.length + 1 + 5 * (capT d + 1)) := by show _ ≤ _; rw [HE.out, List.length_append]; have := HTX.out k; have := Nat.mul_le_mul_right (capT d + 1) (show k ≤ 5 by omega); have := HBL.out; omega
      obtain ⟨T, hT⟩ : ∃ T, T = wr.alloc (.cells #[.int .i64 it[k].kd, .int .i64 it[k].nn, .string it[k].tx, .slice q4 it[k].it.length j4] 55) := ⟨_, rfl⟩
      have hbT : Below wr.heap.size wr T := by rw [hT]; exact below_alloc wr _
      have HT8 := Lib.hid (show T.heap[wr.heap.size]? = some (.cells #[.int .i64 it[k].kd, .int .i64 it[k].nn, .string it[k].tx, .slice q4 it[k].it.length j4] 55) by rw [hT]; exact Go.Deep.blk_alloc_new _ _)
      have HPT := Lib.hid (own_block (w' := T) HPr.out fun g hg => hbT.block g (blkOf_own HPr.out g hg).2)
      have HBT := Lib.hid (HBr.out.trans (hbT.mono HBr.out.size))
      have HZT := Lib.hid (Nat.le_trans HZ.out hbT.size)
      have HKT := Lib.hid (HKx.out.trans (KeptO.below hbT))
      have HTT := Lib.hid hT
      have HTS : Hid (T.heap.size = wr.heap.size + 1) := by show _ = _; rw [hT]; simp
      clear s0 s1 s2 s3 s4 g0 g1 g2 g3 g4 hKp hbT hT
      by_cases h0 : k = 0
      · have HJ := Lib.hid (row_step hlt HE.out)
        have b0 : (k : Int) ≤ 0 := by omega
        have HK0 := Lib.hid h0
        clear h0
        go_wp2_with fail
        rw [← HTT.out]
        have HP9 := HPT
        have HK9x := HKT
        have HK9 : Hid (KeptO w T) := HK.out.trans HKT.out
        have HZ9 := HZT
        have HL9 : Hid (L.length ≤ l.length + 2 + 5 * (capT d + 1)) := Nat.le_trans HLen.out (by omega)
        obtain ⟨x0, x1, x2, x3, _, _, _, _, xz⟩ := blk4 (KeptO.blk HKT.out (by decide) HXO.out)
        obtain ⟨t0, t1, t2, t3, _, _, _, _, tz⟩ := blk4 HT8.out
        have z0 := Keeps.of_below HBT.out _ _ _ HS0.out.1
        have z1 := Keeps.of_below HBT.out _ _ _ HS0.out.2.1
        have z2 := Keeps.of_below HBT.out _ _ _ HS0.out.2.2.1
        have z3 := Keeps.of_below HBT.out _ _ _ HS0.out.2.2.2
        clear y0 y1 y2 y3
        go_region_law (go_simp; go_at_call 74; refine (IH.out su[k] it[k] w0 _ _ _ _ _ HPk.out HFk.out HS4.out HG4.out (show Below w0.heap.size w0 T.drew from HBT.out.drew) (own_block (w' := T.drew) HP9.out fun _ _ => rfl) (by have := HL9.out; omega) HTAB.out).mono ?_; rintro e w6 ⟨p6, n6, m6, rfl, hp6, hb6, hz6, hk6⟩; have HK6 := Lib.hid (HK9.out.trans hk6); have HQ6 := Lib.hid (HK9x.out.trans hk6); have HP6 := Lib.hid hp6; have HB6 := Lib.hid hb6; have HZ6 := Lib.hid (Nat.le_trans HZ9.out hz6); clear hp6 hb6 hz6 hk6)
        all_goals
          go_wp2_with fail
          go_roundw
          case rel => exact ⟨k + 1, p6, n6, m6, _, hlt, by go_num, rfl, by show _ = _; rw [← HJ.out, if_pos HK0.out], HP6.out, HB6.out, HZ6.out, by show KeptO _ _; exact HQ6.out⟩
          case measure => simp [intOf]; omega
      · have HJ := Lib.hid (row_step hlt HE.out)
        have b0 : (0 : Int) < (k : Int) := by omega
        have HK0 := Lib.hid h0
        clear h0
        go_wp2_with (at_builtin; go_must (rw [← HTT.out, ← HTS.out]; refine wpList_byteK T rfl (.tmp 21) (.tmp 22) rfl w0.heap.size (.slice p n m) L 44 44 rfl HPT.out rfl rfl (by have := HLen.out; omega) HBT.out.size ?_))
        intro v' w9 hv' hb9 hk9
        obtain ⟨p9, n9, m9, rfl⟩ := hv'.slice
        obtain ⟨L9, hL9⟩ : ∃ L9, L9 = L ++ [44] := ⟨_, rfl⟩
        rw [← hL9] at hv'
        have HM9 := Lib.hid hL9
        have HP9 := Lib.hid hv'
        have HB9 := Lib.hid (hb9 _ _ HBT.out (Nat.le_refl _))
        have HZ9 : Hid (w.heap.size ≤ w9.heap.size) := Nat.le_trans HZT.out (hb9 0 T (Below.refl _ _) (Nat.zero_le _)).size
        have HK9x := Lib.hid (HKT.out.trans hk9.o)
        have HK9 : Hid (KeptO w w9) := HK.out.trans (HKT.out.trans hk9.o)
        have HL9 : Hid (L9.length ≤ l.length + 2 + 5 * (capT d + 1)) := by show _ ≤ _; rw [hL9, List.length_append]; have := HLen.out; simp; omega
        obtain ⟨x0, x1, x2, x3, _, _, _, _, xz⟩ := blk4 (KeptO.blk HK9x.out (by decide) HXO.out)
        obtain ⟨t0, t1, t2, t3, _, _, _, _, tz⟩ := blk4 (KeptO.blk hk9.o (by decide) HT8.out)
        have z0 := Keeps.of_below HB9.out _ _ _ HS0.out.1
        have z1 := Keeps.of_below HB9.out _ _ _ HS0.out.2.1
        have z2 := Keeps.of_below HB9.out _ _ _ HS0.out.2.2.1
        have z3 := Keeps.of_below HB9.out _ _ _ HS0.out.2.2.2
        clear hv' hb9 hk9 hL9 y0 y1 y2 y3
        go_wp2_with fail
        go_region_law (go_simp; go_at_call 74; refine (IH.out su[k] it[k] w0 _ _ _ _ _ HPk.out HFk.out HS4.out HG4.out (show Below w0.heap.size w0 w9.drew from HB9.out.drew) (own_block (w' := w9.drew) HP9.out fun _ _ => rfl) (by have := HL9.out; omega) HTAB.out).mono ?_; rintro e w6 ⟨p6, n6, m6, rfl, hp6, hb6, hz6, hk6⟩; have HK6 := Lib.hid (HK9.out.trans hk6); have HQ6 := Lib.hid (HK9x.out.trans hk6); have HP6 := Lib.hid hp6; have HB6 := Lib.hid hb6; have HZ6 := Lib.hid (Nat.le_trans HZ9.out hz6); clear hp6 hb6 hz6 hk6)
        all_goals
          go_wp2_with fail
          go_roundw
          case rel => exact ⟨k + 1, p6, n6, m6, _, hlt, by go_num, rfl, by show _ = _; rw [← HJ.out, if_neg HK0.out, ← HM9.out], HP6.out, HB6.out, HZ6.out, by show KeptO _ _; exact HQ6.out⟩
          case measure => simp [intOf]; omega
    · obtain rfl : k = it.length := by omega
      have HLen : Hid (L.length ≤ l.length + 1 + 6 * (capT d + 1)) := by show _ ≤ _; rw [HE.out, List.length_append]; have := HTX.out it.length; have := Nat.mul_le_mul_right (capT d + 1) h6; have := HBL.out; omega
      go_wp2_with (at_builtin; go_must (refine wpList_byteK wr rfl (.tmp 33) (.tmp 34) rfl w0.heap.size (.slice p n m) L 41 41 rfl HPr.out rfl rfl (by have := HLen.out; omega) HBr.out.size ?_))
      intro v' w9 hv' hb9 hk9
      obtain ⟨p9, n9, m9, rfl⟩ := hv'.slice
      have HP9 := Lib.hid hv'
      have HB9 := Lib.hid (hb9 _ _ HBr.out (Nat.le_refl _))
      have HZ9 : Hid (w.heap.size ≤ w9.heap.size) := Nat.le_trans HZ.out (hb9 0 wr (Below.refl _ _) (Nat.zero_le _)).size
      have HK9 : Hid (KeptO w w9) := HK.out.trans (HKx.out.trans hk9.o)
      clear hv' hb9 hk9
      go_wp2_with fail
      go_ret
      refine ⟨p9, n9, m9, rfl, ?_, HB9.out, HZ9.out, HK9.out⟩
      have h := HP9.out
      rw [HE.out, HBB.out, List.take_of_length_le (by rw [txts_len]; exact Nat.le_refl _)] at h
      simpa using h

end Go.Proofs.YtflpfphfoibggaaDoor
