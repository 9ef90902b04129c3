/- Walks: the closures that tell what can not be read, of Items and of records. · Walks: the closures that tell what can not be read, of a field. -/
import Derived.Test.YtbpidhlpakobiaaGRt1W
namespace Go.Proofs.Ytbpidhlpakobiaa
open Go.RowKit

theorem one_map {U : Option Va} {k : Int} : (U.map fun x => Va.mk k 0 ⟨#[]⟩ [x]).isSome = U.isSome := by cases U <;> rfl

set_option maxRecDepth 100000 in
set_option maxHeartbeats 1000000 in
theorem items2_any (X : Nat → Prop) (U : Option Va) (k : Int) (hk : InI64' k) (b1 b2 : Nat) (f1 f2 : FuncId) (c1 c2 : Array Value) (w : World) (h1 : w.heap[b1]? = some (.cells #[fnv f1 c1, fnv f2 c2] 49 (0, 0))) (h2 : w.heap[b2]? = some (.cells #[.int .i64 k] 2 (0, 0))) (hT : Tells X w U f2 c2) :
    Calls Try.prog 62 #[.pointer (some ⟨b1, 0, none⟩), .pointer (some ⟨b2, 0, none⟩)] w (WnPost (U.map fun x => .mk k 0 ⟨#[]⟩ [x]) w) := by
  obtain ⟨W, hW⟩ : ∃ W, W = w.alloc (.cells #[.int .i64 0, .int .i64 0, .string ⟨#[]⟩, .slice none 0 0] 35) := ⟨_, rfl⟩
  have hbw : Below w.heap.size w W := by rw [hW]; exact below_alloc _ _
  have BW := Lib.hid hbw
  have R1 : Hid (W.heap[w.heap.size]? = some (.cells #[.int .i64 0, .int .i64 0, .string ⟨#[]⟩, .slice none 0 0] 35 (0, 0))) := by show _ = _; rw [hW]; exact Go.Deep.blk_alloc_new _ _
  obtain ⟨hE, hC⟩ := hT
  have HCall := Lib.hid (hC W (Still.of_below hbw))
  obtain ⟨x0, x1, _, _, xz⟩ := blk2r h1
  obtain ⟨y0, _, yz⟩ := blk1r h2
  have HY := Lib.hid (blk_below h2 hbw yz)
  have HW := Lib.hid hW
  have HK := Lib.hid hk
  unfold Enters at hE
  clear hbw hW h1 h2 hC hk
  go_enter Try.func62, Try.ntmps62
  go_wp2_with fail
  rw [← HW.out]
  refine HCall.out.mono ?_
  rintro e w1 ⟨d0, d1, d2, d3, F, rfl, ho1, hn1, hb1⟩
  clear x0 x1 y0 hE
  obtain ⟨r3, z3, rfl, rfl, rfl, rfl⟩ := (OwnVa.is _ _ _ ho1).cells
  have wz := (blk4 R1.out).2.2.2.2.2.2.2.2
  have yzW := (blk1r HY.out).2.2
  cases U with
  | none =>
    obtain ⟨w2, hw2⟩ : ∃ w2, w2 = w1.alloc (.cells #[.int .i64 zva.kd, .int .i64 zva.nn, .string zva.tx, .slice r3 zva.it.length z3] 35) := ⟨_, rfl⟩
    have hb2 : Below w1.heap.size w1 w2 := by rw [hw2]; exact below_alloc _ _
    have hbb := hb1.trans (hb2.mono hb1.size)
    have B2 := Lib.hid (BW.out.trans (hbb.mono BW.out.size))
    have R2 := Lib.hid (blk_below R1.out hbb wz)
    have HW2 := Lib.hid hw2
    clear hb1 hb2 hbb hw2 ho1 hn1
    go_wp2_with fail
    rw [← HW2.out]
    refine (allRead_any w2).mono ?_
    rintro e w3 ⟨c0, c1, c2, c3, F, rfl, ho3, hn3, hb3⟩
    obtain ⟨r3', z3', rfl, rfl, rfl, rfl⟩ := (OwnVa.is _ _ _ ho3).cells
    have lt := Lib.hid (OwnVa.blocks _ _ _ ho3)
    have HO := Lib.hid ho3
    have HN := Lib.hid hn3
    have wz2 := (blk4 R2.out).2.2.2.2.2.2.2.2
    obtain ⟨r0, r1, r2, r3, _, _, _, _, rz⟩ := blk4 (blk_below R2.out hb3 wz2)
    have B3 := Lib.hid (B2.out.trans (hb3.mono B2.out.size))
    clear hb3 ho3 hn3
    go_wp2_with fail
    refine bodyPost_ret (v := .tuple #[.agg #[.int .i64 zva.kd, .int .i64 zva.nn, .string zva.tx, .slice r3' zva.it.length z3'], .bool false]) (by simp [results, Try.results62, go_sem, r0, r1, r2, r3]) rfl ?_
    exact wn_end (U := none) B3.out (Nat.le_refl _) (OwnVa.move (Nat.le_of_lt wz2) _ _ _ (fun _ _ => rfl) HO.out) (fun g hg => by have := lt.out g hg; omega) HN.out
  | some x =>
    obtain ⟨w2, hw2⟩ : ∃ w2, w2 = w1.alloc (.cells #[.int .i64 x.kd, .int .i64 x.nn, .string x.tx, .slice r3 x.it.length z3] 35) := ⟨_, rfl⟩
    have hb2 : Below w1.heap.size w1 w2 := by rw [hw2]; exact below_alloc _ _
    have ho2 : OwnVa w2 w.heap.size x (.agg #[.int .i64 x.kd, .int .i64 x.nn, .string x.tx, .slice r3 x.it.length z3]) F := OwnVa.move (Nat.le_of_lt wz) _ _ _ (fun g hg => hb2.block g (OwnVa.blocks _ _ _ ho1 g hg).2) ho1
    have lt1 := OwnVa.blocks _ _ _ ho1
    have hbb := hb1.trans (hb2.mono hb1.size)
    have hB2 := BW.out.trans (hbb.mono BW.out.size)
    have B2 := Lib.hid hB2
    obtain ⟨ho3, hn3⟩ := own_one (k := k) HK.out ho2 hn1 hB2.size
    obtain ⟨w3, hw3⟩ : ∃ w3, w3 = w2.alloc (.cells #[.int .i64 x.kd, .int .i64 x.nn, .string x.tx, .slice r3 x.it.length z3] 35) := ⟨_, rfl⟩
    rw [← hw3] at ho3
    have hb3 : Below w2.heap.size w2 w3 := by rw [hw3]; exact below_alloc _ _
    have HO := Lib.hid ho3
    have HN := Lib.hid hn3
    have HF : Hid (∀ g ∈ w2.heap.size :: F, g ≠ w.heap.size) := fun g hg => by
      rcases List.mem_cons.1 hg with rfl | hg
      · have := hbb.size; omega
      · have := lt1 g hg; omega
    have B3 := Lib.hid (hB2.trans (hb3.mono hB2.size))
    have HW3 := Lib.hid hw3
    have HW2 := Lib.hid hw2
    obtain ⟨y0, _, yz2⟩ := blk1r (blk_below HY.out hb1 yzW)
    obtain ⟨r0, r1, r2, rr3, _, _, _, _, rz⟩ := blk4 (blk_below R1.out hb1 wz)
    have hsz : w2.heap.size = w1.heap.size + 1 := by rw [hw2]; simp
    rw [hsz] at HO HN HF
    clear hb1 hb2 hbb hw2 ho1 hn1 ho2 ho3 hn3 hb3 hw3 hB2 lt1 hsz
    have hgd : (some x : Option Va).getD zva = x := rfl
    simp only [hgd]
    go_wp2_with fail
    refine bodyPost_ret (v := .tuple #[.agg #[.int .i64 k, .int .i64 0, .string ⟨#[]⟩, .slice (some ⟨w1.heap.size + 1, 0, none⟩) 1 1], .bool true]) (by simp [results, Try.results62, go_sem, r0, r1, r2, rr3, rz]) rfl ?_
    have h := wn_end (U := some (.mk k 0 ⟨#[]⟩ [x])) B3.out (Nat.le_refl _) HO.out HF.out HN.out
    rw [HW3.out, HW2.out, putQ_alloc (by simp; omega), putQ_alloc rz] at h
    exact h
end Go.Proofs.Ytbpidhlpakobiaa
namespace Go.Proofs.Ytbpidhlpakobiaa
open Go.RowKit

set_option maxRecDepth 100000 in
set_option maxHeartbeats 1000000 in
theorem field2_any (X : Nat → Prop) (U : Option Va) (d : Nat) (hd : d ≤ 5) (na : List ByteArray) (su : List Sh) (j : Nat) (b1 b2 b3 : Nat) (f1 f2 : FuncId) (c1 c2 : Array Value) (c3 c4 c5 c6 : Value) (w : World) (h1 : w.heap[b1]? = some (.cells #[fnv f1 c1, fnv f2 c2] 49 (0, 0))) (h2 : w.heap[b2]? = some (.cells #[c3, c4, c5, c6] 30 (0, 0))) (h3 : w.heap[b3]? = some (.cells #[.int .i64 j] 3 (0, 0)))
    (hp : partOk d (.mk 7 [] na su) = true) (hs : IsSh w (.mk 7 [] na su) (.agg #[c3, c4, c5, c6])) (hj : j < su.length) (hT : Tells X w U f2 c2) :
    Calls Try.prog 73 #[.pointer (some ⟨b1, 0, none⟩), .pointer (some ⟨b2, 0, none⟩), .pointer (some ⟨b3, 0, none⟩)] w (WnPost (U.map fun x => .mk 7 0 ⟨#[]⟩ ((blanks su).set j x)) w) := by
  obtain ⟨p1, n1, m1, p2, n2, m2, p3, n3, m3, rfl, rfl, rfl, rfl⟩ := hs.cells
  obtain ⟨W, hW⟩ : ∃ W, W = w.alloc (.cells #[.int .i64 0, .int .i64 0, .string ⟨#[]⟩, .slice none 0 0] 35) := ⟨_, rfl⟩
  have hbw : Below w.heap.size w W := by rw [hW]; exact below_alloc _ _
  have BW := Lib.hid hbw
  have R1 : Hid (W.heap[w.heap.size]? = some (.cells #[.int .i64 0, .int .i64 0, .string ⟨#[]⟩, .slice none 0 0] 35 (0, 0))) := by show _ = _; rw [hW]; exact Go.Deep.blk_alloc_new _ _
  obtain ⟨hE, hC⟩ := hT
  have HCall := Lib.hid (hC W (Still.of_below hbw))
  obtain ⟨x0, x1, _, _, xz⟩ := blk2r h1
  have HB := Lib.hid (blk_below h2 hbw (blk4 h2).2.2.2.2.2.2.2.2)
  have HY := Lib.hid (blk_below h3 hbw (blk1r h3).2.2)
  have HS := Lib.hid (IsSh.keep (Keeps.of_below hbw) _ _ hs)
  have HW := Lib.hid hW
  have HP := Lib.hid hp
  have HX : Hid (blankB (.mk 7 [] na su) = .mk 7 0 ⟨#[]⟩ (blanks su)) := by show _ = _; unfold blankB; rfl
  unfold Enters at hE
  clear hbw hW h1 h2 h3 hC hs hp
  go_enter Try.func73, Try.ntmps73
  go_wp2_with fail
  rw [← HW.out]
  refine HCall.out.mono ?_
  rintro e w1 ⟨d0, d1, d2, d3, F, rfl, ho1, hn1, hb1⟩
  clear x0 x1 hE
  obtain ⟨r3, z3, rfl, rfl, rfl, rfl⟩ := (OwnVa.is _ _ _ ho1).cells
  have wz := (blk4 R1.out).2.2.2.2.2.2.2.2
  have yzW := (blk1r HY.out).2.2
  have bzW := (blk4 HB.out).2.2.2.2.2.2.2.2
  cases U with
  | none =>
    obtain ⟨w2, hw2⟩ : ∃ w2, w2 = w1.alloc (.cells #[.int .i64 zva.kd, .int .i64 zva.nn, .string zva.tx, .slice r3 zva.it.length z3] 35) := ⟨_, rfl⟩
    have hb2 : Below w1.heap.size w1 w2 := by rw [hw2]; exact below_alloc _ _
    have hbb := hb1.trans (hb2.mono hb1.size)
    have B2 := Lib.hid (BW.out.trans (hbb.mono BW.out.size))
    have R2 := Lib.hid (blk_below R1.out hbb wz)
    have HW2 := Lib.hid hw2
    clear hb1 hb2 hbb hw2 ho1 hn1
    go_wp2_with fail
    rw [← HW2.out]
    refine (allRead_any w2).mono ?_
    rintro e w3 ⟨c0, c1, c2, c3, F, rfl, ho3, hn3, hb3⟩
    obtain ⟨r3', z3', rfl, rfl, rfl, rfl⟩ := (OwnVa.is _ _ _ ho3).cells
    have lt := Lib.hid (OwnVa.blocks _ _ _ ho3)
    have HO := Lib.hid ho3
    have HN := Lib.hid hn3
    have wz2 := (blk4 R2.out).2.2.2.2.2.2.2.2
    obtain ⟨r0, r1, r2, r3, _, _, _, _, rz⟩ := blk4 (blk_below R2.out hb3 wz2)
    have B3 := Lib.hid (B2.out.trans (hb3.mono B2.out.size))
    clear hb3 ho3 hn3
    go_wp2_with fail
    refine bodyPost_ret (v := .tuple #[.agg #[.int .i64 zva.kd, .int .i64 zva.nn, .string zva.tx, .slice r3' zva.it.length z3'], .bool false]) (by simp [results, Try.results73, go_sem, r0, r1, r2, r3]) rfl ?_
    exact wn_end (U := none) B3.out (Nat.le_refl _) (OwnVa.move (Nat.le_of_lt wz2) _ _ _ (fun _ _ => rfl) HO.out) (fun g hg => by have := lt.out g hg; omega) HN.out
  | some x =>
    obtain ⟨w2, hw2⟩ : ∃ w2, w2 = w1.alloc (.cells #[.int .i64 x.kd, .int .i64 x.nn, .string x.tx, .slice r3 x.it.length z3] 35) := ⟨_, rfl⟩
    have hb2 : Below w1.heap.size w1 w2 := by rw [hw2]; exact below_alloc _ _
    have lt1 := OwnVa.blocks _ _ _ ho1
    have ho2 : OwnVa w2 w.heap.size x (.agg #[.int .i64 x.kd, .int .i64 x.nn, .string x.tx, .slice r3 x.it.length z3]) F := OwnVa.move (Nat.le_of_lt wz) _ _ _ (fun g hg => hb2.block g (lt1 g hg).2) ho1
    have hbb := hb1.trans (hb2.mono hb1.size)
    have B2 := Lib.hid (BW.out.trans (hbb.mono BW.out.size))
    have HO2 := Lib.hid ho2
    have HN1 := Lib.hid hn1
    have HL1 : Hid (∀ g ∈ F, W.heap.size ≤ g ∧ g < w2.heap.size) := fun g hg => by have := lt1 g hg; have := hb2.size; omega
    have HS2 := Lib.hid (IsSh.keep (Keeps.of_below hbb) _ _ HS.out)
    have HI2 := Lib.hid (show w2.heap[w1.heap.size]? = some (.cells #[.int .i64 x.kd, .int .i64 x.nn, .string x.tx, .slice r3 x.it.length z3] 35 (0, 0)) by rw [hw2]; exact Go.Deep.blk_alloc_new _ _)
    have HY2 := Lib.hid (blk_below HY.out hbb yzW)
    have R2 := Lib.hid (blk_below R1.out hbb wz)
    have HB1 := Lib.hid (blk_below HB.out hb1 bzW)
    have HW2 := Lib.hid hw2
    have HZ2 := Lib.hid hbb.size
    obtain ⟨s0, s1, s2, s3, _, _, _, _, sz⟩ := blk4 HB1.out
    have hgd : (some x : Option Va).getD zva = x := rfl
    simp only [hgd]
    clear hb1 hb2 hbb hw2 ho1 hn1 ho2 lt1
    go_wp2_with fail
    rw [← HW2.out]
    refine (bi_any d hd _ _ w2 HP.out HS2.out).mono ?_
    rw [HX.out]
    rintro e w3 ⟨e0, e1, e2, e3, F3, rfl, ho3, hn3, hb3⟩
    obtain ⟨q3, y3, rfl, rfl, rfl, rfl⟩ := (OwnVa.is _ _ _ ho3).cells
    simp only [kd_mk, nn_mk, tx_mk, it_mk] at ho3 ⊢
    clear s0 s1 s2 s3 sz
    have lt3 := OwnVa.blocks _ _ _ ho3
    have hz2 := HZ2.out
    have ho3' : OwnVa w3 w.heap.size (.mk 7 0 ⟨#[]⟩ (blanks su)) (.agg #[.int .i64 7, .int .i64 0, .string ⟨#[]⟩, .slice q3 (blanks su).length y3]) F3 := OwnVa.move (by omega) _ _ _ (fun _ _ => rfl) ho3
    have ho2' : OwnVa w3 w.heap.size x (.agg #[.int .i64 x.kd, .int .i64 x.nn, .string x.tx, .slice r3 x.it.length z3]) F := OwnVa.move (Nat.le_refl _) _ _ _ (fun g hg => hb3.block g (HL1.out g hg).2) HO2.out
    obtain ⟨g, rfl, hg1, hg2, hgF, hgc, hm1, hm2, F', ho5, hn5, hF5⟩ := own_put ho3' hn3 ho2' HN1.out (fun a ha b hb => by have := lt3 a ha; have := HL1.out b hb; omega) (show j < (blanks su).length by rw [blanks_len]; exact hj)
    have hg3 := (lt3 g hgF).1
    obtain ⟨w5, hw5⟩ : ∃ w5, w5 = (((w3.setCell ⟨g, j * 4, none⟩ (.int .i64 x.kd)).setCell ⟨g, j * 4 + 1, none⟩ (.int .i64 x.nn)).setCell ⟨g, j * 4 + 2, none⟩ (.string x.tx)).setCell ⟨g, j * 4 + 3, none⟩ (.slice r3 x.it.length z3) := ⟨_, rfl⟩
    rw [← hw5] at ho5
    have hj' : j < (blanks su).length := by rw [blanks_len]; exact hj
    have B3 := Lib.hid (B2.out.trans (hb3.mono B2.out.size))
    have B5 : Hid (Below w.heap.size w w5) := by
      show Below _ _ _
      rw [hw5]
      exact (((B3.out.setCell (p := ⟨g, j * 4, none⟩) hg1 _).setCell (p := ⟨g, j * 4 + 1, none⟩) hg1 _).setCell (p := ⟨g, j * 4 + 2, none⟩) hg1 _).setCell (p := ⟨g, j * 4 + 3, none⟩) hg1 _
    obtain ⟨g0, hg0⟩ := hgc 0 (by omega)
    obtain ⟨g1', hg1'⟩ := hgc 1 (by omega)
    obtain ⟨g2', hg2'⟩ := hgc 2 (by omega)
    obtain ⟨g3', hg3'⟩ := hgc 3 (by omega)
    obtain ⟨u0, g0⟩ := g0
    obtain ⟨u1, g1'⟩ := g1'
    obtain ⟨u2, g2'⟩ := g2'
    obtain ⟨u3, g3'⟩ := g3'
    rw [Nat.add_zero] at g0 hg0
    obtain ⟨i0, i1, i2, i3, _, _, _, _, iz⟩ := blk4 (blk_below HI2.out hb3 (blk4 HI2.out).2.2.2.2.2.2.2.2)
    obtain ⟨y0, _, yz⟩ := blk1r (blk_below HY2.out hb3 (blk1r HY2.out).2.2)
    obtain ⟨r0, r1, r2, rr3, _, _, _, _, rz⟩ := blk4 (blk_below R2.out hb3 (blk4 R2.out).2.2.2.2.2.2.2.2)
    have hgne : g ≠ w.heap.size := by omega
    have hgne1 : g ≠ w1.heap.size := by have := (blk4 HI2.out).2.2.2.2.2.2.2.2; omega
    have HO5 := Lib.hid ho5
    have HN5 := Lib.hid hn5
    have HF5 : Hid (∀ q ∈ F', q ≠ w.heap.size) := fun q hq => by
      rcases hF5 q hq with h | h
      · have := lt3 q h; omega
      · have := HL1.out q h; omega
    have HW5 := Lib.hid hw5
    have hz5 : Hid (w.heap.size < w5.heap.size) := by show _ < _; rw [hw5, size_set, size_set, size_set, size_set]; exact rz
    clear ho3 hn3 hb3 lt3 ho3' ho2' hgc hw5 ho5 hn5 hF5
    go_wp2_with fail
    refine bodyPost_ret (v := .tuple #[.agg #[.int .i64 7, .int .i64 0, .string ⟨#[]⟩, .slice (some ⟨g, 0, none⟩) (blanks su).length y3], .bool true]) (by simp [results, Try.results73, go_sem, r0, r1, r2, rr3, rz]) rfl ?_
    have h' := wn_end (U := some (.mk 7 0 ⟨#[]⟩ ((blanks su).set j x))) (b := w.heap.size) (B5.out.alloc B5.out.size (.cells #[.int .i64 7, .int .i64 0, .string ⟨#[]⟩, .slice (some ⟨g, 0, none⟩) (blanks su).length y3] 35)) (Nat.le_refl _) (OwnVa.move (Nat.le_refl _) _ _ _ (fun q hq => (below_alloc w5 _).block q (OwnVa.blocks _ _ _ HO5.out q hq).2) HO5.out) HF5.out HN5.out
    rw [putQ_alloc hz5.out, HW5.out] at h'
    exact h'
end Go.Proofs.Ytbpidhlpakobiaa
