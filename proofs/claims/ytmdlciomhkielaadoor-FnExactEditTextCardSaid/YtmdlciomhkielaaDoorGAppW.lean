/- Walks: impl.appendFields, impl.appendShape. -/
import Derived.Test.YtmdlciomhkielaaDoorGBytW
import Derived.Test.YtmdlciomhkielaaDoorGPartB
import Derived.Deep.RegionLaw
namespace Go.Proofs.YtmdlciomhkielaaDoor
open Go.RowKit

/-- append(v, c), c in a new cell, as one step of a region that draws. -/
theorem step_byte {ops : Array Oper} {o : Oper} {a : Act} {K : Act → World → Prop} {Q : Exit → Act → World → Prop} {E : Prop} (W : World) (hgd : o.guard = none) (s x : Operand)
    (ho : o.op = .call { callee := .builtin .append, args := #[s, x], argTypes := #[102, 102] })
    (base : Nat) (v : Value) (l : List UInt8) (n : Int) (c : UInt8) (hs : a.eval s = v) (hown : OwnB W base v l) (hx : a.eval x = .slice (some ⟨W.heap.size, 0, none⟩) 1 1)
    (hn : n = (c.toNat : Int)) (hl : l.length < 70368744177664) (hbase : base ≤ W.heap.size)
    (h : ∀ v' w', OwnB w' base v' (l ++ [c]) → (∀ B w0, Below B w0 W → B ≤ base → Below B w0 w') → Kept W w' → K (a.put o.dst v') w') :
    if Region.wanted o (yielded ops a.tmps) = true then Oper.wp Tryd.prog o a (W.alloc (.cells #[.int .u8 n] 5)).drew K Q else E := by
  have hw : Region.wanted o (yielded ops a.tmps) = true := by simp [Region.wanted, hgd]
  rw [if_pos hw]
  obtain ⟨i0, hi, hz0, hz1, hz2⟩ := info_parts u8_info
  subst hn
  have hown' : World.ownsRow (W.alloc (.cells #[.int .u8 (c.toNat : Int)] 5)).drew base 5 1 v l.length (cellsB l) := own_block hown fun g hg => ((below_alloc W _).drew).block g (blkOf_own hown g hg).2
  have hnew := Go.Deep.blk_alloc_new W (.cells #[.int .u8 (c.toNat : Int)] 5)
  refine wp_append_own _ s x _ ho base 5 i0 (.int .u8 0) 1 1 Tryd.underlying102 hi hz0 hz1 hz2 rfl (by decide) v l.length (cellsB l) hs hown' ⟨W.heap.size, 0, none⟩ 1 1 [.int .u8 (c.toNat : Int)] hx rfl ?_ ?_ (by unfold maxLen; omega) (by omega) (by show base ≤ (W.alloc _).heap.size; simp; omega) ?_
  · intro j u hj
    match j, hj with
    | 0, hj =>
      simp at hj; subst hj
      show World.cell? (W.alloc (.cells #[.int .u8 (c.toNat : Int)] 5)) ⟨W.heap.size, 0, none⟩ = _
      unfold World.cell?
      rw [hnew]
      simp
  · intro u hu; simp at hu; subst hu; rfl
  · intro v' w' hv hg _
    have hrow : ∀ k, v.ownBlock = some k → base ≤ k := fun k hk => by
      rcases hown.2 with ⟨hv, _⟩ | ⟨g, cap'', cur, hv, hb, _⟩
      · rw [hv] at hk; cases hk
      · rw [hv] at hk
        simp [Value.ownBlock] at hk
        subst hk
        exact hb
    refine h v' w' (by simpa [OwnB, cellsB] using hv) (fun B w0 h0 hB => ?_) (grow_other hown ((below_alloc W _).drew) hg)
    exact ((h0.alloc (Nat.le_trans hB hbase) _).drew).grown hg (by show B ≤ (W.alloc _).heap.size; simp; omega) fun k hk => Nat.le_trans hB (hrow k hk)

/-- impl.appendShape's contract at the right shapes of so many levels. -/
def ApAt (kw : World → Prop) (d : Nat) : Prop := ∀ (t : Sh) (w0 w : World) (v u : Value) (l : List UInt8), partOk d t = true → IsSh w0 t u → Below w0.heap.size w0 w → OwnB w w0.heap.size v l → l.length + capT d ≤ 1099511627776 → kw w0 →
  Calls Tryd.prog 97 #[v, u] w (AppPost w0 w (l ++ t.txt))

theorem items_take_len (d : Nat) (k : Int) (na : List ByteArray) (su : List Sh) (hs : su.all (partOk d) = true) (hn : ∀ s ∈ na, s.size ≤ 8) (j : Nat) (hj : j ≤ 5) : (joinC ((Sh.items k na su).take j)).length ≤ 5 * (capT d + 10) := by
  have := joinC_len (capT d + 9) ((Sh.items k na su).take j) (fun a ha => items_le k (capT d) su na (fun x hx => txt_len d x (List.all_eq_true.1 hs x hx)) hn a (List.mem_of_mem_take ha))
  refine Nat.le_trans this (Nat.mul_le_mul_right _ ?_)
  rw [List.length_take]; omega

theorem fields_step {su : List Sh} {na : List ByteArray} {k : Nat} (h : k < su.length) (hn : k < na.length) {l L : List UInt8} (hL : L = l ++ joinC ((Sh.items 7 na su).take k)) :
    ((if k = 0 then L else L ++ [44]) ++ na[k].data.toList ++ [58]) ++ su[k].txt = l ++ joinC ((Sh.items 7 na su).take (k + 1)) := by
  rw [items_take_succ 7 su na k h, joinC_snoc, hL, getD_at hn]
  by_cases h0 : k = 0
  · subst h0; simp [joinC]
  · have : ¬ (Sh.items 7 na su).take k = [] := by
      intro he
      have := congrArg List.length he
      rw [List.length_take, items_len, Nat.min_eq_left (by omega)] at this
      simp at this
      omega
    rw [if_neg this, if_neg h0]; simp

set_option maxRecDepth 100000 in
set_option maxHeartbeats 2000000 in
theorem appFields_any (kw : World → Prop) (d : Nat) (_ : d ≤ 5) (ih : ApAt kw d) (w0 w : World) (v : Value) (l : List UInt8) (p1 p2 p3 : Option Addr) (n1 m1 m2 m3 : Nat) (na : List ByteArray) (su : List Sh)
    (hna : IsStrs w0 (.slice p2 na.length m2) na) (hsu : IsShs w0 (.slice p3 su.length m3) su) (hl2 : su.length = na.length) (h6 : na.length ≤ 6) (h8 : ∀ s ∈ na, s.size ≤ 8) (hs : su.all (partOk d) = true)
    (hb : Below w0.heap.size w0 w) (ho : OwnB w w0.heap.size v l) (hl : l.length + 75 + 6 * capT d ≤ 1099511627776) (hkw : kw w0) :
    Calls Tryd.prog 115 #[v, .agg #[.int .i64 7, .slice p1 n1 m1, .slice p2 na.length m2, .slice p3 su.length m3]] w (AppPost w0 w (l ++ joinC (Sh.items 7 na su))) := by
  obtain ⟨h1, _, a2, cap2, e2, _, hc2, g2⟩ := hna
  simp only [Value.slice.injEq] at e2
  obtain ⟨rfl, _, rfl⟩ := e2
  obtain ⟨a3, cap3, e3, _, hc3, g3⟩ := hsu
  simp only [Value.slice.injEq] at e3
  obtain ⟨rfl, _, rfl⟩ := e3
  have H2 := Lib.hid g2
  have H3 := Lib.hid g3
  have HO := Lib.hid ho
  have HB := Lib.hid hb
  have H8 := Lib.hid h8
  have HS := Lib.hid hs
  have IH := Lib.hid ih
  have HKW := Lib.hid hkw
  have HL2 := Lib.hid hl2
  have HIT := Lib.hid (items_take_len d 7 na su hs h8)
  obtain ⟨p, n, m, rfl⟩ := ho.slice
  have h6' : na.length ≤ 6 := h6
  have HBX := Lib.hid (Go.Deep.blk_alloc_new w (.cells #[.int .i64 7, .slice p1 n1 m1, .slice p2 na.length m2, .slice p3 su.length m3] 140))
  clear g2 g3 ho hb h8 hs ih hkw hl2 h6
  go_enter Tryd.func115, Tryd.ntmps115
  go_wp2_with fail
  go_loopw [0, 10] (fun o i wr => ∃ (k : Nat) (p : Option Addr) (n m : Nat) (L : List UInt8), k ≤ na.length ∧ i = .int .i64 k ∧ o = .slice p n m ∧ Hid (L = l ++ joinC ((Sh.items 7 na su).take k)) ∧ Hid (OwnB wr w0.heap.size (.slice p n m) L) ∧ Hid (Below w0.heap.size w0 wr) ∧ Hid (w.heap.size ≤ wr.heap.size) ∧
    Hid (wr.heap[w.heap.size]? = some (.cells #[.int .i64 7, .slice p1 n1 m1, .slice p2 na.length m2, .slice p3 su.length m3] 140 (0, 0))) ∧ Hid (Kept w wr)) (fun _ i _ => na.length - (intOf i).toNat)
  case atStart =>
    refine ⟨0, p, n, m, l, Nat.zero_le _, rfl, rfl, by show _ = _; simp [joinC], ?_, HB.out.alloc HB.out.size _, by show _ ≤ _; simp, HBX.out, Kept.below (below_alloc w _)⟩
    exact own_block HO.out fun g hg => (below_alloc w _).block g (blkOf_own HO.out g hg).2
  case round =>
    obtain ⟨k, p, n, m, L, hk, rfl, rfl, HE, HP, HBr, HZ, HX, HKe⟩ := hrel
    by_cases hlt : k < na.length
    · have hlu : k < su.length := by have := HL2.out; omega
      obtain ⟨b, off, rfl, hc⟩ := IsStrs.at H2.out hlt
      obtain ⟨b', off', rfl, c0, c1, c2, c3, s0, s1, s2, s3, s4⟩ := IsShs.at H3.out hlu
      obtain ⟨q1, i1, j1, q2, i2, j2, q3, i3, j3, rfl, rfl, rfl, rfl⟩ := s4.cells
      have HC := Lib.hid hc
      have HS0 := Lib.hid (And.intro s0 (And.intro s1 (And.intro s2 s3)))
      have HS4 := Lib.hid s4
      have HKp := Lib.hid (Keeps.of_below HBr.out)
      have hcell := HKp.out _ _ _ hc
      have HSz := Lib.hid (H8.out na[k] (List.getElem_mem hlt))
      have HLen : Hid (L.length ≤ l.length + 5 * (capT d + 10)) := by show _ ≤ _; rw [HE.out, List.length_append]; have := HIT.out k (by omega); omega
      have HPk := Lib.hid (List.all_eq_true.1 HS.out su[k] (List.getElem_mem hlu))
      obtain ⟨a0, a1, a2, a3, _, _, _, _, az⟩ := blk4 HX.out
      clear hc s0 s1 s2 s3 s4
      by_cases h0 : k = 0
      · have HJ := Lib.hid (fields_step hlu hlt HE.out)
        have b0 : (k : Int) ≤ 0 := by omega
        have HK0 := Lib.hid h0
        clear h0
        go_wp2_with (at_builtin; go_must (refine wpList_strK wr rfl (.tmp 20) (.tmp 21) rfl w0.heap.size _ L na[k] rfl HP.out rfl (by have := HLen.out; have := HSz.out; omega) HBr.out.size ?_))
        intro v' w1 hv' hb1 hk1
        obtain ⟨p', n', m', rfl⟩ := hv'.slice
        obtain ⟨L1, hL1⟩ : ∃ L1, L1 = L ++ na[k].data.toList := ⟨_, rfl⟩
        rw [← hL1] at hv'
        have HL1 := Lib.hid hL1
        have HP1 := Lib.hid hv'
        have HB1 := Lib.hid (hb1 _ _ HBr.out (Nat.le_refl _))
        have HZ1 : Hid (w.heap.size ≤ w1.heap.size) := Nat.le_trans HZ.out (hb1 0 wr (Below.refl _ _) (Nat.zero_le _)).size
        have HK1 := Lib.hid (HKe.out.trans hk1)
        have HX1 := Lib.hid (hk1 _ _ HX.out (fun cur h => by cases h))
        have HL9 : Hid (L1.length ≤ l.length + 5 * (capT d + 10) + 9) := by show _ ≤ _; rw [HL1.out, List.length_append]; have := HLen.out; have := HSz.out; simp; omega
        have hcell1 := Keeps.of_below HB1.out _ _ _ HC.out
        have x0 := Keeps.of_below HB1.out _ _ _ HS0.out.1
        have x1 := Keeps.of_below HB1.out _ _ _ HS0.out.2.1
        have x2 := Keeps.of_below HB1.out _ _ _ HS0.out.2.2.1
        have x3 := Keeps.of_below HB1.out _ _ _ HS0.out.2.2.2
        have hbl : b' < w1.heap.size := World.block_lt_of_cell? w1 ⟨b', off' + k * 4, none⟩ x0
        clear hv' hb1 hk1 hL1 a0 a1 a2 a3 az hcell
        obtain ⟨b0', b1', b2', b3', _, _, _, _, bz⟩ := blk4 HX1.out
        go_wp2_with fail
        go_region_law (first
          | (go_simp; go_at_call 97; refine (IH.out su[k] w0 _ _ _ _ HPk.out HS4.out HB5.out HP5.out (by have := HL9.out; rw [List.length_append]; simp; omega) HKW.out).mono ?_; rintro e w6 ⟨p6, n6, m6, rfl, hp6, hb6, hz6, hk6⟩; have HK6 := Lib.hid (HK5.out.trans hk6); have HX6 := Lib.hid (hk6 _ _ HX5.out (fun cur h => by cases h)); have HP6 := Lib.hid hp6; have HB6 := Lib.hid hb6; have HZ6 := Lib.hid (Nat.le_trans HZ5.out hz6); clear hp6 hb6 hz6 hk6)
          | (refine step_byte w1 rfl _ _ rfl w0.heap.size (.slice p' n' m') L1 58 58 rfl HP1.out rfl rfl (by have := HL9.out; omega) HB1.out.size ?_; intro v5 w5 hv5 hb5 hk5; obtain ⟨p5, n5, m5, rfl⟩ := hv5.slice; have HP5 := Lib.hid hv5; have HB5 := Lib.hid (hb5 _ _ HB1.out (Nat.le_refl _)); have HZ5 := Lib.hid (Nat.le_trans HZ1.out (hb5 0 w1 (Below.refl _ _) (Nat.zero_le _)).size); have HK5 := Lib.hid (HK1.out.trans hk5); have HX5 := Lib.hid (hk5 _ _ HX1.out (fun cur h => by cases h)); obtain ⟨_, _, _, _, _, _, _, _, _⟩ := blk4 HX5.out; have y0 := Keeps.of_below HB5.out _ _ _ HS0.out.1; have y1 := Keeps.of_below HB5.out _ _ _ HS0.out.2.1; have y2 := Keeps.of_below HB5.out _ _ _ HS0.out.2.2.1; have y3 := Keeps.of_below HB5.out _ _ _ HS0.out.2.2.2; clear hv5 hb5 hk5))
        all_goals
          go_wp2_with fail
          go_roundw
          case rel => exact ⟨k + 1, p6, n6, m6, _, hlt, by go_num, rfl, by show _ = _; rw [← HJ.out, if_pos HK0.out, ← HL1.out], HP6.out, HB6.out, HZ6.out, HX6.out, HK6.out⟩
          case measure => simp [intOf]; omega
      · have HJ := Lib.hid (fields_step hlu hlt HE.out)
        have b0 : (0 : Int) < (k : Int) := by omega
        have HK0 := Lib.hid h0
        clear h0
        go_wp2_with (at_builtin; go_must (refine wpList_byteK wr rfl (.tmp 17) (.tmp 18) rfl w0.heap.size _ L 44 44 rfl HP.out rfl rfl (by have := HLen.out; omega) HBr.out.size ?_))
        intro v' w9 hv' hb9 hk9
        obtain ⟨p9, n9, m9, rfl⟩ := hv'.slice
        obtain ⟨L9, hL9⟩ : ∃ L9, L9 = L ++ [44] := ⟨_, rfl⟩
        rw [← hL9] at hv'
        have HM9 := Lib.hid hL9
        have HP9 := Lib.hid hv'
        have HB9 := Lib.hid (hb9 _ _ HBr.out (Nat.le_refl _))
        have HZ9 : Hid (w.heap.size ≤ w9.heap.size) := Nat.le_trans HZ.out (hb9 0 wr (Below.refl _ _) (Nat.zero_le _)).size
        have HK9 := Lib.hid (HKe.out.trans hk9)
        have HX9 := Lib.hid (hk9 _ _ HX.out (fun cur h => by cases h))
        have HLen9 : Hid (L9.length ≤ l.length + 5 * (capT d + 10) + 1) := by show _ ≤ _; rw [HM9.out, List.length_append]; have := HLen.out; simp; omega
        clear hv' hb9 hk9 hL9
        go_wp2_with (at_builtin; go_must (refine wpList_strK w9 rfl (.tmp 20) (.tmp 21) rfl w0.heap.size _ L9 na[k] rfl HP9.out rfl (by have := HLen9.out; have := HSz.out; omega) HB9.out.size ?_))
        intro v' w1 hv' hb1 hk1
        obtain ⟨p', n', m', rfl⟩ := hv'.slice
        obtain ⟨L1, hL1⟩ : ∃ L1, L1 = L9 ++ na[k].data.toList := ⟨_, rfl⟩
        rw [← hL1] at hv'
        have HL1 := Lib.hid hL1
        have HP1 := Lib.hid hv'
        have HB1 := Lib.hid (hb1 _ _ HB9.out (Nat.le_refl _))
        have HZ1 : Hid (w.heap.size ≤ w1.heap.size) := Nat.le_trans HZ9.out (hb1 0 w9 (Below.refl _ _) (Nat.zero_le _)).size
        have HK1 := Lib.hid (HK9.out.trans hk1)
        have HX1 := Lib.hid (hk1 _ _ HX9.out (fun cur h => by cases h))
        have HL9 : Hid (L1.length ≤ l.length + 5 * (capT d + 10) + 9) := by show _ ≤ _; rw [HL1.out, List.length_append]; have := HLen9.out; have := HSz.out; simp; omega
        have hcell1 := Keeps.of_below HB1.out _ _ _ HC.out
        have x0 := Keeps.of_below HB1.out _ _ _ HS0.out.1
        have x1 := Keeps.of_below HB1.out _ _ _ HS0.out.2.1
        have x2 := Keeps.of_below HB1.out _ _ _ HS0.out.2.2.1
        have x3 := Keeps.of_below HB1.out _ _ _ HS0.out.2.2.2
        have hbl : b' < w1.heap.size := World.block_lt_of_cell? w1 ⟨b', off' + k * 4, none⟩ x0
        clear hv' hb1 hk1 hL1 a0 a1 a2 a3 az hcell
        obtain ⟨b0', b1', b2', b3', _, _, _, _, bz⟩ := blk4 HX1.out
        go_wp2_with fail
        go_region_law (first
          | (go_simp; go_at_call 97; refine (IH.out su[k] w0 _ _ _ _ HPk.out HS4.out HB5.out HP5.out (by have := HL9.out; rw [List.length_append]; simp; omega) HKW.out).mono ?_; rintro e w6 ⟨p6, n6, m6, rfl, hp6, hb6, hz6, hk6⟩; have HK6 := Lib.hid (HK5.out.trans hk6); have HX6 := Lib.hid (hk6 _ _ HX5.out (fun cur h => by cases h)); have HP6 := Lib.hid hp6; have HB6 := Lib.hid hb6; have HZ6 := Lib.hid (Nat.le_trans HZ5.out hz6); clear hp6 hb6 hz6 hk6)
          | (refine step_byte w1 rfl _ _ rfl w0.heap.size (.slice p' n' m') L1 58 58 rfl HP1.out rfl rfl (by have := HL9.out; omega) HB1.out.size ?_; intro v5 w5 hv5 hb5 hk5; obtain ⟨p5, n5, m5, rfl⟩ := hv5.slice; have HP5 := Lib.hid hv5; have HB5 := Lib.hid (hb5 _ _ HB1.out (Nat.le_refl _)); have HZ5 := Lib.hid (Nat.le_trans HZ1.out (hb5 0 w1 (Below.refl _ _) (Nat.zero_le _)).size); have HK5 := Lib.hid (HK1.out.trans hk5); have HX5 := Lib.hid (hk5 _ _ HX1.out (fun cur h => by cases h)); obtain ⟨_, _, _, _, _, _, _, _, _⟩ := blk4 HX5.out; have y0 := Keeps.of_below HB5.out _ _ _ HS0.out.1; have y1 := Keeps.of_below HB5.out _ _ _ HS0.out.2.1; have y2 := Keeps.of_below HB5.out _ _ _ HS0.out.2.2.1; have y3 := Keeps.of_below HB5.out _ _ _ HS0.out.2.2.2; clear hv5 hb5 hk5))
        all_goals
          go_wp2_with fail
          go_roundw
          case rel => exact ⟨k + 1, p6, n6, m6, _, hlt, by go_num, rfl, by show _ = _; rw [← HJ.out, if_neg HK0.out, ← HM9.out, ← HL1.out], HP6.out, HB6.out, HZ6.out, HX6.out, HK6.out⟩
          case measure => simp [intOf]; omega
    · obtain rfl : k = na.length := by omega
      go_wp2_with fail
      go_ret
      have h := HP.out
      rw [HE.out, List.take_of_length_le (by rw [items_len]; have := HL2.out; omega)] at h
      exact ⟨p, n, m, rfl, h, HBr.out, HZ.out, HKe.out⟩
end Go.Proofs.YtmdlciomhkielaaDoor
