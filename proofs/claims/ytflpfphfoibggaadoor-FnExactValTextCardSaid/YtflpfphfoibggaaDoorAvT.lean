/- Walks: impl.appendVal at a text. -/
import Derived.Test.YtflpfphfoibggaaDoorAvW
import Derived.Test.YtflpfphfoibggaaDoorAtP
namespace Go.Proofs.YtflpfphfoibggaaDoor
open Go.RowKit

/-- What an append to v leaves. -/
structure Grew (base : Nat) (v : Value) (W w' : World) : Prop where
  below : ∀ B w0, Below B w0 W → B ≤ base → Below B w0 w'
  kept : KeptO W w'
  size : W.heap.size ≤ w'.heap.size
  other : ∀ q, q < W.heap.size → q ∉ blkOf v → w'.heap[q]? = W.heap[q]?
theorem grew_of {base : Nat} {v : Value} {l : List UInt8} {W w' : World} (ho : OwnB W base v l) (hb : base ≤ W.heap.size) (hg : W.grownBy w' v.ownBlock) : Grew base v W w' :=
  ⟨fun B w0 h0 hB => h0.grown hg (by omega) fun k hk => Nat.le_trans hB (blkOf_own ho k ((ownBlock_blk ho k).1 hk)).1,
   Kept.o (grow_other ho (Below.refl _ _) hg), hg.size, fun q hq hn => hg.block q hq fun e => hn ((ownBlock_blk ho q).1 e.symm)⟩
theorem Grew.cell {base : Nat} {v u : Value} {W w' : World} (h : Grew base v W w') {g : Nat} (hg : g ∉ blkOf v) (hc : W.cell? ⟨g, 0, none⟩ = some u) : w'.cell? ⟨g, 0, none⟩ = some u := by
  have := h.other g (World.block_lt_of_cell? W ⟨g, 0, none⟩ hc) hg
  unfold World.cell? at hc ⊢
  rw [this]; exact hc

/-- append(v, c), c in the block g, in a region that draws. -/
theorem step_c {ops : Array Oper} {o : Oper} {a : Act} {K : Act → World → Prop} {Q : Exit → Act → World → Prop} {E : Prop} {W : World} (W1 : World) (hW : Below W1.heap.size W1 W) (hgd : o.guard = none) (s x : Operand)
    (ho : o.op = .call { callee := .builtin .append, args := #[s, x], argTypes := #[22, 22] })
    (base : Nat) (v : Value) (l : List UInt8) (k : Int) (c : UInt8) (g : Nat) (hs : a.eval s = v) (hown1 : OwnB W1 base v l) (hx : a.eval x = .slice (some ⟨g, 0, none⟩) 1 1) (hc : W.cell? ⟨g, 0, none⟩ = some (.int .u8 k)) (hk : k = (c.toNat : Int))
    (hl : l.length < 70368744177664) (hbase1 : base ≤ W1.heap.size)
    (h : ∀ p n m w', OwnB w' base (.slice p n m) (l ++ [c]) → (∀ w0, Below base w0 W1 → Below base w0 w') → KeptO W1 w' → W1.heap.size ≤ w'.heap.size → (∀ q u, W1.heap.size ≤ q → W.cell? ⟨q, 0, none⟩ = some u → w'.cell? ⟨q, 0, none⟩ = some u ∧ q ∉ blkOf (.slice p n m)) → K (a.put o.dst (.slice p n m)) w') :
    if Region.wanted o (yielded ops a.tmps) = true then Oper.wp Tryd.prog o a W K Q else E := by
  subst hk
  have hw : Region.wanted o (yielded ops a.tmps) = true := by simp [Region.wanted, hgd]
  rw [if_pos hw]
  have hown : OwnB W base v l := own_block hown1 fun g hg => hW.block g (blkOf_own hown1 g hg).2
  have hbase : base ≤ W.heap.size := Nat.le_trans hbase1 hW.size
  obtain ⟨i0, hi, hz0, hz1, hz2⟩ := info_parts u8_info
  refine wp_append_own_at s x _ ho base 5 i0 (.int .u8 0) 1 1 Tryd.underlying22 hi hz0 hz1 hz2 rfl (by decide) v l.length (cellsB l) hs hown ⟨g, 0, none⟩ 1 1 [.int .u8 (c.toNat : Int)] hx rfl ?_ ?_ (by unfold maxLen; omega) (by omega) hbase ?_
  · intro j u hj
    match j, hj with
    | 0, hj =>
      simp at hj; subst hj
      exact hc
  · intro u hu; simp at hu; subst hu; rfl
  · intro v' w' hv hg hat
    have hv2 : OwnB w' base v' (l ++ [c]) := by simpa [OwnB, cellsB] using hv
    obtain ⟨p, n, m, rfl⟩ := hv2.slice
    have hgr := grew_of hown hbase hg
    refine h p n m w' hv2 (fun w0 h0 => hgr.below _ _ (h0.trans (hW.mono hbase1)) (Nat.le_refl _)) ((KeptO.below hW).trans hgr.kept) (Nat.le_trans hW.size hgr.size) fun q u hq hu => ?_
    have hnv : q ∉ blkOf v := fun h => by have := (blkOf_own hown1 q h).2; omega
    refine ⟨hgr.cell hnv hu, fun hm => ?_⟩
    have hlt := World.block_lt_of_cell? W ⟨q, 0, none⟩ hu
    have e := (ownBlock_blk hv2 q).2 hm
    rcases hat with ha | ha
    · rw [ha] at e; exact hnv ((ownBlock_blk hown q).1 e)
    · rw [ha] at e
      have := Option.some.inj e
      change q < W.heap.size at hlt
      omega
/-- append(v, t...), t a string, in a region that draws. -/
theorem step_s {ops : Array Oper} {o : Oper} {a : Act} {K : Act → World → Prop} {Q : Exit → Act → World → Prop} {E : Prop} {W : World} (W1 : World) (hW : Below W1.heap.size W1 W) (hgd : o.guard = none) (s x : Operand)
    (ho : o.op = .call { callee := .builtin .append, args := #[s, x], argTypes := #[22, 9] })
    (base : Nat) (v : Value) (l : List UInt8) (t : ByteArray) (hs : a.eval s = v) (hown1 : OwnB W1 base v l) (hx : a.eval x = .string t)
    (hl : l.length + t.size < 70368744177664) (hbase1 : base ≤ W1.heap.size)
    (h : ∀ p n m w', OwnB w' base (.slice p n m) (l ++ t.data.toList) → (∀ w0, Below base w0 W1 → Below base w0 w') → KeptO W1 w' → W1.heap.size ≤ w'.heap.size → (∀ q u, W.cell? ⟨q, 0, none⟩ = some u → q ∉ blkOf v → w'.cell? ⟨q, 0, none⟩ = some u) → K (a.put o.dst (.slice p n m)) w') :
    if Region.wanted o (yielded ops a.tmps) = true then Oper.wp Tryd.prog o a W K Q else E := by
  have hw : Region.wanted o (yielded ops a.tmps) = true := by simp [Region.wanted, hgd]
  rw [if_pos hw]
  have hown : OwnB W base v l := own_block hown1 fun g hg => hW.block g (blkOf_own hown1 g hg).2
  have hbase : base ≤ W.heap.size := Nat.le_trans hbase1 hW.size
  obtain ⟨i0, hi, hz0, hz1, hz2⟩ := info_parts u8_info
  obtain ⟨v', w', hr, h2, h3, _⟩ := Lib.run_append_own_string (P := Tryd.prog) W base 22 9 o.type 5 i0 Tryd.underlying22 Tryd.underlying9 hi hz0 hz1 hz2 v l.length (cellsB l) hown t (by unfold maxLen; omega) (by omega) hbase
  have hv2 : OwnB w' base v' (l ++ t.data.toList) := by
    have e : cellsB l ++ Lib.strCells t = cellsB (l ++ t.data.toList) := by simp [cellsB, Lib.strCells]
    rw [e] at h2
    show w'.ownsRow base _ 1 v' (l ++ t.data.toList).length _
    have e2 : (l ++ t.data.toList).length = l.length + t.size := by simp
    rw [e2]; exact h2
  obtain ⟨p, n, m, rfl⟩ := hv2.slice
  have hgr := grew_of hown hbase h3
  unfold Oper.wp execOp
  simp only [ho, resolve, invoke, builtin, Sem.run_bind, Sem.run_pure, Result.andThen_ok, List.map_toArray, List.map_cons, List.map_nil, hs, hx, hr]
  exact h p n m w' hv2 (fun w0 h0 => hgr.below _ _ (h0.trans (hW.mono hbase1)) (Nat.le_refl _)) ((KeptO.below hW).trans hgr.kept) (Nat.le_trans hW.size hgr.size) fun q u hu hq => hgr.cell hq hu

theorem lit1 (w : World) (x : Value) (T : TypeId) : (w.alloc (.cells #[x] T)).cell? ⟨w.heap.size, 0, none⟩ = some x := by
  unfold World.cell?
  rw [Go.Deep.blk_alloc_new w (.cells #[x] T)]
  simp
theorem lit2a (w : World) (x y : Value) (T U : TypeId) : ((w.alloc (.cells #[x] T)).alloc (.cells #[y] U)).cell? ⟨w.heap.size, 0, none⟩ = some x := by
  unfold World.cell?
  rw [(two_new w (.cells #[x] T) (.cells #[y] U)).1]
  simp
theorem lit2b (w : World) (x y : Value) (T U : TypeId) : ((w.alloc (.cells #[x] T)).alloc (.cells #[y] U)).cell? ⟨w.heap.size + 1, 0, none⟩ = some y := by
  unfold World.cell?
  rw [(two_new w (.cells #[x] T) (.cells #[y] U)).2]
  simp
theorem lit1d (w : World) (x : Value) (T : TypeId) : (w.alloc (.cells #[x] T)).drew.cell? ⟨w.heap.size, 0, none⟩ = some x := lit1 w x T
theorem lit2ad (w : World) (x y : Value) (T U : TypeId) : ((w.alloc (.cells #[x] T)).alloc (.cells #[y] U)).drew.cell? ⟨w.heap.size, 0, none⟩ = some x := lit2a w x y T U
theorem lit2bd (w : World) (x y : Value) (T U : TypeId) : ((w.alloc (.cells #[x] T)).alloc (.cells #[y] U)).drew.cell? ⟨w.heap.size + 1, 0, none⟩ = some y := lit2b w x y T U

set_option maxRecDepth 100000 in
set_option maxHeartbeats 2000000 in
theorem av_text (w0 w : World) (v : Value) (l : List UInt8) (p1 p2 p3 p4 : Option Addr) (n1 n2 n3 n4 m1 m2 m3 m4 : Nat) (n : Int) (t : ByteArray)
    (hb : Below w0.heap.size w0 w) (ho : OwnB w w0.heap.size v l) (hl : l.length + 100 ≤ 1099511627776) (ht : t.size ≤ 20) :
    Calls Tryd.prog 74 #[v, .agg #[.int .i64 3, .slice p1 n1 m1, .slice p2 n2 m2, .slice p3 n3 m3], .agg #[.int .i64 3, .int .i64 n, .string t, .slice p4 n4 m4]] w (AvPost w0 w (l ++ 34 :: (t.data.toList ++ [34]))) := by
  obtain ⟨p, nn, m, rfl⟩ := ho.slice
  obtain ⟨x0, x1⟩ := two_new w (.cells #[.int .i64 3, .slice p1 n1 m1, .slice p2 n2 m2, .slice p3 n3 m3] 26) (.cells #[.int .i64 3, .int .i64 n, .string t, .slice p4 n4 m4] 55)
  obtain ⟨W, hW⟩ : ∃ W, W = (w.alloc (.cells #[.int .i64 3, .slice p1 n1 m1, .slice p2 n2 m2, .slice p3 n3 m3] 26)).alloc (.cells #[.int .i64 3, .int .i64 n, .string t, .slice p4 n4 m4] 55) := ⟨_, rfl⟩
  have hbW : Below w.heap.size w W := by rw [hW]; exact (below_alloc w _).alloc (by simp) _
  rw [← hW] at x1
  have HW := Lib.hid hW
  have HO := Lib.hid (own_block (w' := W) ho fun g hg => hbW.block g (blkOf_own ho g hg).2)
  have HB := Lib.hid (hb.trans (hbW.mono hb.size))
  have HS := Lib.hid hbW.size
  have HK := Lib.hid (KeptO.below hbW)
  have X1 := Lib.hid x1
  have u0 := ta_no_flag 129 (by decide)
  have u1 := ta_no_num 129 (by decide)
  have u2 := ta_text
  clear x0 x1 hbW hW hb ho
  go_enter Tryd.func74, Tryd.ntmps74
  go_wp2_with fail
  rw [← HW.out]
  refine (kindOf_text _ _ _ _ _ _ _ _ _ _).mono ?_
  rintro e w0' ⟨rfl, hb1⟩
  obtain ⟨w1, hw1⟩ : ∃ w1, w1 = w0'.alloc (.cells #[.int .i64 3, .slice p1 n1 m1, .slice p2 n2 m2, .slice p3 n3 m3] 129) := ⟨_, rfl⟩
  have hba : Below W.heap.size W w1 := by rw [hw1]; exact hb1.alloc hb1.size _
  have K1 := Lib.hid (show w1.heap[w0'.heap.size]? = some (.cells #[.int .i64 3, .slice p1 n1 m1, .slice p2 n2 m2, .slice p3 n3 m3] 129 (0, 0)) by rw [hw1]; exact Go.Deep.blk_alloc_new _ _)
  have HO1 := Lib.hid (own_block (w' := w1) HO.out fun g hg => hba.block g (blkOf_own HO.out g hg).2)
  have HB1 := Lib.hid (HB.out.trans (hba.mono HB.out.size))
  have HS1 := Lib.hid (Nat.le_trans HS.out hba.size)
  have HK1 := Lib.hid (HK.out.trans (KeptO.below hba))
  have V1 := Lib.hid (blk_below X1.out hba (blk4 X1.out).2.2.2.2.2.2.2.2)
  have HW1 := Lib.hid hw1
  clear hba hb1 hw1
  obtain ⟨v0, v1, v2, v3, _, _, _, _, vz⟩ := blk4 V1.out
  rw [HW1.out] at v0 v1 v2 v3
  go_wp2_with fail
  rw [← HW1.out]
  rw [← HW1.out] at v0 v1 v2 v3
  have vz2 : w.heap.size < w1.heap.size := by omega
  have vz3 : w.heap.size + 1 < w1.heap.size + 1 := by omega
  have vz4 : ¬ w.heap.size = w1.heap.size := by omega
  go_region_law (first
    | (refine step_c w1 (by with_reducible first | exact (below_alloc w1 _).drew | exact ((below_alloc w1 _).alloc (by simp) _).drew) rfl (.tmp 34) (.tmp 35) rfl w0.heap.size (.slice p nn m) l 34 34 _ rfl HO1.out rfl (by with_reducible first | exact lit1d w1 _ _ | exact lit2ad w1 _ _ _ _ | exact lit2bd w1 _ _ _ _) rfl (by omega) HB1.out.size ?_; intro p5 n5 m5 w5 hv5 hb5 hk5 hz5 hc5; have HP5 := Lib.hid hv5; have HB5 := Lib.hid (hb5 _ HB1.out); have HZ5 := Lib.hid (Nat.le_trans HS1.out hz5); have HK5 := Lib.hid (HK1.out.trans hk5); have C5a := Lib.hid (hc5 w1.heap.size (.int .u8 34) (Nat.le_refl _) (by with_reducible first | exact lit1d w1 _ _ | exact lit2ad w1 _ _ _ _ | exact lit2bd w1 _ _ _ _)); (try (have C5b := Lib.hid (hc5 (w1.heap.size + 1) (.int .u8 34) (Nat.le_succ _) (by with_reducible exact lit2bd w1 _ _ _ _)))); obtain ⟨_, _, _, _, _, _, _, _, _⟩ := blk4 (KeptO.blk hk5 (by decide) V1.out); clear hv5 hb5 hk5 hz5 hc5)
    | (refine step_s w5 (by with_reducible first | exact Below.refl _ w5 | exact below_alloc w5 _ | exact (Below.refl _ w5).drew | exact (below_alloc w5 _).drew) rfl (.tmp 36) (.tmp 38) rfl w0.heap.size (.slice p5 n5 m5) (l ++ [34]) t rfl HP5.out rfl (by rw [List.length_append]; simp; omega) HB5.out.size ?_; intro p6 n6 m6 w6 hv6 hb6 hk6 hz6 hc6; have HP6 := Lib.hid hv6; have HB6 := Lib.hid (hb6 _ HB5.out); have HZ6 := Lib.hid (Nat.le_trans HZ5.out hz6); have HK6 := Lib.hid (HK5.out.trans hk6); have C6a : Hid (w6.cell? ⟨w1.heap.size, 0, none⟩ = some (.int .u8 34)) := hc6 _ _ (by with_reducible first | exact C5a.out.1 | exact ((below_alloc w5 _).cell (World.block_lt_of_cell? _ _ C5a.out.1)).trans C5a.out.1) C5a.out.2; (try (have C6b : Hid (w6.cell? ⟨w1.heap.size + 1, 0, none⟩ = some (.int .u8 34)) := hc6 _ _ (by with_reducible first | exact C5b.out.1 | exact ((below_alloc w5 _).cell (World.block_lt_of_cell? _ _ C5b.out.1)).trans C5b.out.1) C5b.out.2)); (try (have C6c : Hid (w6.cell? ⟨w5.heap.size, 0, none⟩ = some (.int .u8 34)) := hc6 _ _ (by with_reducible first | exact lit1 w5 _ _ | exact lit1d w5 _ _) (fun h => absurd (blkOf_own HP5.out _ h).2 (Nat.lt_irrefl _)))); clear hv6 hb6 hk6 hz6 hc6)
    | (refine step_c w6 (by with_reducible first | exact Below.refl _ w6 | exact below_alloc w6 _ | exact (Below.refl _ w6).drew | exact (below_alloc w6 _).drew) rfl (.tmp 39) (.tmp 40) rfl w0.heap.size (.slice p6 n6 m6) ((l ++ [34]) ++ t.data.toList) 34 34 _ rfl HP6.out rfl (by with_reducible first | exact C6c.out | exact C6b.out | exact C6a.out | exact lit1 w6 _ _ | exact lit1d w6 _ _) rfl (by rw [List.length_append, List.length_append]; simp; show _ + 1 + t.size < _; omega) HB6.out.size ?_; intro p7 n7 m7 w7 hv7 hb7 hk7 hz7 _; have HP7 := Lib.hid hv7; have HB7 := Lib.hid (hb7 _ HB6.out); have HZ7 := Lib.hid (Nat.le_trans HZ6.out hz7); have HK7 := Lib.hid (HK6.out.trans hk7); clear hv7 hb7 hk7 hz7))
  all_goals
    go_wp2_with fail
    go_ret
    exact ⟨p7, n7, m7, rfl, by have h := HP7.out; simpa using h, HB7.out, HZ7.out, HK7.out⟩

end Go.Proofs.YtflpfphfoibggaaDoor
