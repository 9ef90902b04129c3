/- Walks: laws.toEdit. -/
import Derived.Test.YtfdhmkmeffgkgaaDoorGEdP
import Derived.Test.YtfdhmkmeffgkgaaDoorGToW
import Derived.Test.YtfdhmkmeffgkgaaDoorGMarkTW
namespace Go.Proofs.YtfdhmkmeffgkgaaDoor
open Go.RowKit

/-- What toEdit leaves. -/
def EdPost (t : Ed) (w : World) (e : Ending) (w' : World) : Prop := ∃ v F, e = .returned v ∧ OwnEd w' w.heap.size t v F ∧ F.Nodup ∧ Below w.heap.size w w'

theorem put4s {w : World} {b : Nat} {T : TypeId} {c : Array Value} (h : w.heap[b]? = some (.cells c T (0, 0))) (i0 i1 i2 i3 : Nat) (v0 v1 v2 v3 : Value) :
    ((((w.setCell ⟨b, i0, none⟩ v0).setCell ⟨b, i1, none⟩ v1).setCell ⟨b, i2, none⟩ v2).setCell ⟨b, i3, none⟩ v3).heap[b]? = some (.cells ((((c.setIfInBounds i0 v0).setIfInBounds i1 v1).setIfInBounds i2 v2).setIfInBounds i3 v3) T (0, 0)) ∧
    Only [b] w ((((w.setCell ⟨b, i0, none⟩ v0).setCell ⟨b, i1, none⟩ v1).setCell ⟨b, i2, none⟩ v2).setCell ⟨b, i3, none⟩ v3) :=
  ⟨blk_set (blk_set (blk_set (blk_set h i0 v0) i1 v1) i2 v2) i3 v3, ((((Only.refl [b] w).set (by simp) i0 v0).set (by simp) i1 v1).set (by simp) i2 v2).set (by simp) i3 v3⟩

theorem ed_end {t : Ed} {w w1 w2 w3 w4 : World} {b1 b2 B1 B2 B3 : Nat} {p0 p1 p2 p3 q1 q2 q3 : Option Addr} {m0 n1 m1 n2 m2 n3 m3 i1 j1 i2 j2 i3 j3 : Nat} {F1 F2 : List Nat} (i1' : InI64' t.kd) (i2' : InI64' t.pl) (s3 : t.nm.size ≤ 9223372036854775807) (s4 : t.tn.size ≤ 9223372036854775807)
    (h0 : w.heap.size ≤ b1) (h01 : b1 < B1) (h02 : b2 < B1) (hb0 : w.heap.size ≤ b2)
    (ho1 : OwnStrs w1 B1 (.slice p0 t.path.length m0) t.path) (hz1 : w1.heap.size ≤ B2) (o12 : Only [b2] w1 w2)
    (ho2 : OwnSh w2 B2 t.sh (.agg #[.int .i64 t.sh.kd, .slice p1 n1 m1, .slice p2 n2 m2, .slice p3 n3 m3]) F1) (hn2 : F1.Nodup) (hz2 : w2.heap.size ≤ B3) (o23 : Only [b2] w2 w3)
    (ho3 : OwnSh w3 B3 t.ws (.agg #[.int .i64 t.ws.kd, .slice q1 i1 j1, .slice q2 i2 j2, .slice q3 i3 j3]) F2) (hn3 : F2.Nodup) (o34 : Only [b1, b2] w3 w4) (hb : Below w.heap.size w w1) (hB : w.heap.size ≤ B1) (hB1 : B1 ≤ w1.heap.size) :
    EdPost t w (.returned (.agg #[.int .i64 t.kd, .slice p0 t.path.length m0, .int .i64 t.pl, .string t.nm, .string t.tn, .int .i64 t.sh.kd, .slice p1 n1 m1, .slice p2 n2 m2, .slice p3 n3 m3, .int .i64 t.ws.kd, .slice q1 i1 j1, .slice q2 i2 j2, .slice q3 i3 j3])) w4 := by
  have k1 := blkOf_own ho1.2
  have k2 := OwnSh.blocks _ _ _ ho2
  have k3 := OwnSh.blocks _ _ _ ho3
  have zb := hb.size
  have z12 := o12.size
  have z23 := o23.size
  have e12 : ∀ g, g < w1.heap.size → g ≠ b2 → w2.heap[g]? = w1.heap[g]? := fun g h1 h2 => o12.block g h1 (by simpa using h2)
  have e23 : ∀ g, g < w2.heap.size → g ≠ b2 → w3.heap[g]? = w2.heap[g]? := fun g h1 h2 => o23.block g h1 (by simpa using h2)
  have e34 : ∀ g, g < w3.heap.size → g ≠ b2 → g ≠ b1 → w4.heap[g]? = w3.heap[g]? := fun g h1 h2 h3 => o34.block g h1 (by simp; exact ⟨h3, h2⟩)
  refine ⟨_, _, rfl, ⟨_, _, _, _, _, _, _, _, _, _, _, _, _, _, _, _, _, _, _, _, F1, F2, rfl, i1', i2', s3, s4, ⟨ho1.1, own_mono (own_block ho1.2 fun g hg => ?_) hB⟩, OwnSh.move (by omega) _ _ _ (fun g hg => ?_) ho2, OwnSh.move (by omega) _ _ _ (fun g hg => ?_) ho3, rfl⟩, ?_, ?_⟩
  · have := k1 g hg
    rw [e34 g (by omega) (by omega) (by omega), e23 g (by omega) (by omega), e12 g (by omega) (by omega)]
  · have := k2 g hg
    rw [e34 g (by omega) (by omega) (by omega), e23 g (by omega) (by omega)]
  · have := k3 g hg
    rw [e34 g (by omega) (by omega) (by omega)]
  · refine List.nodup_append.2 ⟨?_, List.nodup_append.2 ⟨hn2, hn3, fun a ha b hb he => ?_⟩, fun a ha b hb he => ?_⟩
    · cases p0 <;> simp [blkOf]
    · have := k2 a ha; have := k3 b hb; omega
    · have := k1 a ha
      rcases List.mem_append.1 hb with hb | hb
      · have := k2 b hb; omega
      · have := k3 b hb; omega
  · exact ((hb.trans (o12.below (by have := hb.size; omega) (by simpa using hb0))).trans (o23.below (by have := hb.size; omega) (by simpa using hb0))).trans (o34.below (by have := hb.size; omega) (by simp; exact ⟨h0, hb0⟩))

set_option maxRecDepth 100000 in
set_option maxHeartbeats 2000000 in
theorem toEd_any (t : Ed) (v : Value) (w : World) (h : IsEd w t v) (hs : t.sz ≤ 1048576) :
    Calls Tryd.prog 8 #[v] w (EdPost t w) := by
  obtain ⟨p0, m0, p1, n1, m1, p2, n2, m2, p3, n3, m3, q1, i1, j1, q2, i2, j2, q3, i3, j3, rfl, k1, k2, y3, y4, h5, h6, h7⟩ := h
  unfold Ed.sz at hs
  have l1 : Hid (t.path.length ≤ 1048576) := by show _ ≤ _; unfold strsSz at hs; omega
  have l2 : Hid (t.sh.sz ≤ 1048576) := by show _ ≤ _; omega
  have l3 : Hid (t.ws.sz ≤ 1048576) := by show _ ≤ _; omega
  obtain ⟨W, hW⟩ : ∃ W, W = ((w.alloc (.cells #[.int .i64 t.kd, .slice p0 t.path.length m0, .int .i64 t.pl, .string t.nm, .string t.tn, .int .i64 t.sh.kd, .slice p1 n1 m1, .slice p2 n2 m2, .slice p3 n3 m3, .int .i64 t.ws.kd, .slice q1 i1 j1, .slice q2 i2 j2, .slice q3 i3 j3] 27)).alloc (.cells #[.int .i64 0, .slice none 0 0, .int .i64 0, .string ⟨#[]⟩, .string ⟨#[]⟩, .int .i64 0, .slice none 0 0, .slice none 0 0, .slice none 0 0, .int .i64 0, .slice none 0 0, .slice none 0 0, .slice none 0 0] 33)).alloc (.cells #[.int .i64 t.kd, .slice none 0 0, .int .i64 0, .string ⟨#[]⟩, .string ⟨#[]⟩, .int .i64 0, .slice none 0 0, .slice none 0 0, .slice none 0 0, .int .i64 0, .slice none 0 0, .slice none 0 0, .slice none 0 0] 33) := ⟨_, rfl⟩
  have hx := three_new w (.cells #[.int .i64 t.kd, .slice p0 t.path.length m0, .int .i64 t.pl, .string t.nm, .string t.tn, .int .i64 t.sh.kd, .slice p1 n1 m1, .slice p2 n2 m2, .slice p3 n3 m3, .int .i64 t.ws.kd, .slice q1 i1 j1, .slice q2 i2 j2, .slice q3 i3 j3] 27) (.cells #[.int .i64 0, .slice none 0 0, .int .i64 0, .string ⟨#[]⟩, .string ⟨#[]⟩, .int .i64 0, .slice none 0 0, .slice none 0 0, .slice none 0 0, .int .i64 0, .slice none 0 0, .slice none 0 0, .slice none 0 0] 33) (.cells #[.int .i64 t.kd, .slice none 0 0, .int .i64 0, .string ⟨#[]⟩, .string ⟨#[]⟩, .int .i64 0, .slice none 0 0, .slice none 0 0, .slice none 0 0, .int .i64 0, .slice none 0 0, .slice none 0 0, .slice none 0 0] 33)
  have hbw := ((below_alloc w (.cells #[.int .i64 t.kd, .slice p0 t.path.length m0, .int .i64 t.pl, .string t.nm, .string t.tn, .int .i64 t.sh.kd, .slice p1 n1 m1, .slice p2 n2 m2, .slice p3 n3 m3, .int .i64 t.ws.kd, .slice q1 i1 j1, .slice q2 i2 j2, .slice q3 i3 j3] 27)).alloc (by simp) (.cells #[.int .i64 0, .slice none 0 0, .int .i64 0, .string ⟨#[]⟩, .string ⟨#[]⟩, .int .i64 0, .slice none 0 0, .slice none 0 0, .slice none 0 0, .int .i64 0, .slice none 0 0, .slice none 0 0, .slice none 0 0] 33)).alloc (by simp; omega) (.cells #[.int .i64 t.kd, .slice none 0 0, .int .i64 0, .string ⟨#[]⟩, .string ⟨#[]⟩, .int .i64 0, .slice none 0 0, .slice none 0 0, .slice none 0 0, .int .i64 0, .slice none 0 0, .slice none 0 0, .slice none 0 0] 33)
  have hws : W.heap.size = w.heap.size + 1 + 1 + 1 := by rw [hW]; simp
  rw [← hW] at hx hbw
  have A0 := Lib.hid hx.1
  have D0 := Lib.hid hx.2.1
  have C0 := Lib.hid hx.2.2
  have B0 := Lib.hid hbw
  have HW := Lib.hid hW
  have WS := Lib.hid hws
  have K1 := Lib.hid k1
  have K2 := Lib.hid k2
  have H5 := Lib.hid (h5.keep (Keeps.of_below hbw))
  have H6 := Lib.hid h6
  have H7 := Lib.hid h7
  clear hx hbw hW hws h5 h6 h7 k1 k2 hs
  go_enter Tryd.func8, Tryd.ntmps8
  have a0 := cel A0.out 0 rfl
  have a1 := cel A0.out 1 rfl
  have c0 := cel C0.out 0 rfl
  have f0 := frz_of C0.out 0
  go_wp2_with fail
  rw [← HW.out]
  refine (toStrs_any _ t.path _ H5.out l1.out).mono ?_
  rintro e w1 ⟨rfl, ho1, hb1, hz1⟩
  have A1 := Lib.hid (blk_below A0.out hb1 (Array.getElem?_eq_some_iff.1 A0.out).1)
  have C1 := Lib.hid (blk_below C0.out hb1 (Array.getElem?_eq_some_iff.1 C0.out).1)
  have D1 := Lib.hid (blk_below D0.out hb1 (by have := WS.out; omega))
  have O1 := Lib.hid ho1
  have B1 := Lib.hid (B0.out.trans (hb1.mono B0.out.size))
  have Z1 := Lib.hid hb1.size
  clear ho1 hb1 hz1
  clear a0 a1 c0 f0
  have a2 := cel A1.out 2 rfl
  have a3 := cel A1.out 3 rfl
  have a4 := cel A1.out 4 rfl
  have a5 := cel A1.out 5 rfl
  have a6 := cel A1.out 6 rfl
  have a7 := cel A1.out 7 rfl
  have a8 := cel A1.out 8 rfl
  have c1 := cel C1.out 1 rfl
  have f1 := frz_of C1.out 1
  have c2 := cel C1.out 2 rfl
  have f2 := frz_of C1.out 2
  have c3 := cel C1.out 3 rfl
  have f3 := frz_of C1.out 3
  have c4 := cel C1.out 4 rfl
  have f4 := frz_of C1.out 4
  go_wp2_with fail
  have hp := put4s C1.out 1 2 3 4 (.slice (some ⟨W.heap.size, 0, none⟩) t.path.length t.path.length) (.int .i64 t.pl) (.string t.nm) (.string t.tn)
  obtain ⟨X1, hX1⟩ : ∃ X, X = (((w1.setCell ⟨w.heap.size + 1 + 1, 1, none⟩ (.slice (some ⟨W.heap.size, 0, none⟩) t.path.length t.path.length)).setCell ⟨w.heap.size + 1 + 1, 2, none⟩ (.int .i64 t.pl)).setCell ⟨w.heap.size + 1 + 1, 3, none⟩ (.string t.nm)).setCell ⟨w.heap.size + 1 + 1, 4, none⟩ (.string t.tn) := ⟨_, rfl⟩
  rw [← hX1] at hp ⊢
  have OX1 := Lib.hid hp.2
  have C2 := Lib.hid (show X1.heap[w.heap.size + 1 + 1]? = some (Obj.cells #[.int .i64 t.kd, .slice (some ⟨W.heap.size, 0, none⟩) t.path.length t.path.length, .int .i64 t.pl, .string t.nm, .string t.tn, .int .i64 0, .slice none 0 0, .slice none 0 0, .slice none 0 0, .int .i64 0, .slice none 0 0, .slice none 0 0, .slice none 0 0] 33 (0, 0)) from by simpa only [List.setIfInBounds_toArray, List.set_cons_zero, List.set_cons_succ] using hp.1)
  have A2 := Lib.hid ((hp.2.block _ (Array.getElem?_eq_some_iff.1 A1.out).1 (by simp; omega)).trans A1.out)
  have D2 := Lib.hid ((hp.2.block (w.heap.size + 1) (by have := Z1.out; have := WS.out; omega) (by simp)).trans D1.out)
  have B2 := Lib.hid (B1.out.trans (hp.2.below B1.out.size (by simp; omega)))
  have Z2 := Lib.hid (Nat.le_trans Z1.out hp.2.size)
  clear hp hX1
  clear a2 a3 a4 a5 a6 a7 a8 c1 f1 c2 f2 c3 f3 c4 f4
  refine (toSh_any t.sh _ X1 (IsSh.keep (Keeps.of_below B2.out) _ _ H6.out) l2.out).mono ?_
  rintro e w2 ⟨c0, c1, c2, c3, G2, rfl, ho, hn, hb⟩
  obtain ⟨r1, rn1, rm1, r2, rn2, rm2, r3, rn3, rm3, rfl, rfl, rfl, rfl⟩ := (OwnSh.is _ _ _ ho).cells
  have O2 := Lib.hid ho
  have N2 := Lib.hid hn
  have S2B := Lib.hid hb
  have A3 := Lib.hid (blk_below A2.out hb (Array.getElem?_eq_some_iff.1 A2.out).1)
  have C3 := Lib.hid (blk_below C2.out hb (Array.getElem?_eq_some_iff.1 C2.out).1)
  have D3 := Lib.hid (blk_below D2.out hb (Array.getElem?_eq_some_iff.1 D2.out).1)
  have B3 := Lib.hid (B2.out.trans (hb.mono B2.out.size))
  have Z3 := Lib.hid (Nat.le_trans Z2.out hb.size)
  clear ho hn hb
  have a9 := cel A3.out 9 rfl
  have a10 := cel A3.out 10 rfl
  have a11 := cel A3.out 11 rfl
  have a12 := cel A3.out 12 rfl
  have c5 := cel C3.out 5 rfl
  have f5 := frz_of C3.out 5
  have c6 := cel C3.out 6 rfl
  have f6 := frz_of C3.out 6
  have c7 := cel C3.out 7 rfl
  have f7 := frz_of C3.out 7
  have c8 := cel C3.out 8 rfl
  have f8 := frz_of C3.out 8
  go_upto_region 8 with fail
  have hp := put4s C3.out 5 6 7 8 (.int .i64 t.sh.kd) (.slice r1 rn1 rm1) (.slice r2 rn2 rm2) (.slice r3 rn3 rm3)
  obtain ⟨X2, hX2⟩ : ∃ X, X = (((w2.setCell ⟨w.heap.size + 1 + 1, 5, none⟩ (.int .i64 t.sh.kd)).setCell ⟨w.heap.size + 1 + 1, 6, none⟩ (.slice r1 rn1 rm1)).setCell ⟨w.heap.size + 1 + 1, 7, none⟩ (.slice r2 rn2 rm2)).setCell ⟨w.heap.size + 1 + 1, 8, none⟩ (.slice r3 rn3 rm3) := ⟨_, rfl⟩
  rw [← hX2] at hp ⊢
  have OX2 := Lib.hid hp.2
  have C4 := Lib.hid (show X2.heap[w.heap.size + 1 + 1]? = some (Obj.cells #[.int .i64 t.kd, .slice (some ⟨W.heap.size, 0, none⟩) t.path.length t.path.length, .int .i64 t.pl, .string t.nm, .string t.tn, .int .i64 t.sh.kd, .slice r1 rn1 rm1, .slice r2 rn2 rm2, .slice r3 rn3 rm3, .int .i64 0, .slice none 0 0, .slice none 0 0, .slice none 0 0] 33 (0, 0)) from by simpa only [List.setIfInBounds_toArray, List.set_cons_zero, List.set_cons_succ] using hp.1)
  have A4 := Lib.hid ((hp.2.block _ (Array.getElem?_eq_some_iff.1 A3.out).1 (by simp; omega)).trans A3.out)
  have D4 := Lib.hid ((hp.2.block (w.heap.size + 1) (by have := Z3.out; have := WS.out; omega) (by simp)).trans D3.out)
  have B4 := Lib.hid (B3.out.trans (hp.2.below B3.out.size (by simp; omega)))
  have Z4 := Lib.hid (Nat.le_trans Z3.out hp.2.size)
  clear hp hX2
  clear a9 a10 a11 a12 c5 f5 c6 f6 c7 f7 c8 f8
  go_cut [3] (fun x wc => x = .pointer (some ⟨w.heap.size + 1 + 1, 0, none⟩) ∧ Hid (∃ s1 sn1 sm1 s2 sn2 sm2 s3 sn3 sm3 G3 w3, OwnSh w3 X2.heap.size t.ws (.agg #[.int .i64 t.ws.kd, .slice s1 sn1 sm1, .slice s2 sn2 sm2, .slice s3 sn3 sm3]) G3 ∧ G3.Nodup ∧ Below X2.heap.size X2 w3 ∧ Only [w.heap.size + 1 + 1] w3 wc ∧ wc.heap[w.heap.size + 1 + 1]? = some (.cells #[.int .i64 t.kd, .slice (some ⟨W.heap.size, 0, none⟩) t.path.length t.path.length, .int .i64 t.pl, .string t.nm, .string t.tn, .int .i64 t.sh.kd, .slice r1 rn1 rm1, .slice r2 rn2 rm2, .slice r3 rn3 rm3, .int .i64 t.ws.kd, .slice s1 sn1 sm1, .slice s2 sn2 sm2, .slice s3 sn3 sm3] 33 (0, 0))))
  case first =>
    have a9 := cel A4.out 9 rfl
    have a10 := cel A4.out 10 rfl
    have a11 := cel A4.out 11 rfl
    have a12 := cel A4.out 12 rfl
    go_wp2_with fail
    refine (toSh_any t.ws _ X2 (IsSh.keep (Keeps.of_below B4.out) _ _ H7.out) l3.out).mono ?_
    rintro e w3 ⟨c0, c1, c2, c3, G3, rfl, ho, hn, hb⟩
    obtain ⟨s1, sn1, sm1, s2, sn2, sm2, s3, sn3, sm3, rfl, rfl, rfl, rfl⟩ := (OwnSh.is _ _ _ ho).cells
    have O3 := Lib.hid ho
    have N3 := Lib.hid hn
    have S3B := Lib.hid hb
    have A5 := Lib.hid (blk_below A4.out hb (Array.getElem?_eq_some_iff.1 A4.out).1)
    have C5 := Lib.hid (blk_below C4.out hb (Array.getElem?_eq_some_iff.1 C4.out).1)
    have D5 := Lib.hid (blk_below D4.out hb (Array.getElem?_eq_some_iff.1 D4.out).1)
    have B5 := Lib.hid (B4.out.trans (hb.mono B4.out.size))
    have Z5 := Lib.hid (Nat.le_trans Z4.out hb.size)
    clear ho hn hb
    have c9 := cel C5.out 9 rfl
    have f9 := frz_of C5.out 9
    have c10 := cel C5.out 10 rfl
    have f10 := frz_of C5.out 10
    have c11 := cel C5.out 11 rfl
    have f11 := frz_of C5.out 11
    have c12 := cel C5.out 12 rfl
    have f12 := frz_of C5.out 12
    go_wp2_with fail
    have hp := put4s C5.out 9 10 11 12 (.int .i64 t.ws.kd) (.slice s1 sn1 sm1) (.slice s2 sn2 sm2) (.slice s3 sn3 sm3)
    go_meet
    exact ⟨rfl, _, _, _, _, _, _, _, _, _, _, _, O3.out, N3.out, S3B.out, hp.2, show _ = some (Obj.cells #[.int .i64 t.kd, .slice (some ⟨W.heap.size, 0, none⟩) t.path.length t.path.length, .int .i64 t.pl, .string t.nm, .string t.tn, .int .i64 t.sh.kd, .slice r1 rn1 rm1, .slice r2 rn2 rm2, .slice r3 rn3 rm3, .int .i64 t.ws.kd, .slice s1 sn1 sm1, .slice s2 sn2 sm2, .slice s3 sn3 sm3] 33 (0, 0)) from by simpa only [List.setIfInBounds_toArray, List.set_cons_zero, List.set_cons_succ] using hp.1⟩
  case rest =>
    rename World => W4
    obtain ⟨rfl, hc⟩ := hcut
    obtain ⟨s1, sn1, sm1, s2, sn2, sm2, s3, sn3, sm3, G3, w3, ho3, hn3, hb3, hy, hx⟩ := hc.out
    have E3 := blk_below D4.out hb3 (Array.getElem?_eq_some_iff.1 D4.out).1
    have E4 := Lib.hid ((hy.block (w.heap.size + 1) (Array.getElem?_eq_some_iff.1 E3).1 (by simp)).trans E3)
    have C4' := Lib.hid hx
    have O3 := Lib.hid ho3
    have N3 := Lib.hid hn3
    have HY := Lib.hid hy
    have P12 := Lib.hid (OX1.out.trans (Only.of_below S2B.out))
    have P23 := Lib.hid (OX2.out.trans (Only.of_below hb3))
    clear hc E3 hx ho3 hn3 hy hb3
    have c0 := cel C4'.out 0 rfl
    have d0 := cel E4.out 0 rfl
    have g0 := frz_of E4.out 0
    have c1 := cel C4'.out 1 rfl
    have d1 := cel E4.out 1 rfl
    have g1 := frz_of E4.out 1
    have c2 := cel C4'.out 2 rfl
    have d2 := cel E4.out 2 rfl
    have g2 := frz_of E4.out 2
    have c3 := cel C4'.out 3 rfl
    have d3 := cel E4.out 3 rfl
    have g3 := frz_of E4.out 3
    have c4 := cel C4'.out 4 rfl
    have d4 := cel E4.out 4 rfl
    have g4 := frz_of E4.out 4
    have c5 := cel C4'.out 5 rfl
    have d5 := cel E4.out 5 rfl
    have g5 := frz_of E4.out 5
    have c6 := cel C4'.out 6 rfl
    have d6 := cel E4.out 6 rfl
    have g6 := frz_of E4.out 6
    have c7 := cel C4'.out 7 rfl
    have d7 := cel E4.out 7 rfl
    have g7 := frz_of E4.out 7
    have c8 := cel C4'.out 8 rfl
    have d8 := cel E4.out 8 rfl
    have g8 := frz_of E4.out 8
    have c9 := cel C4'.out 9 rfl
    have d9 := cel E4.out 9 rfl
    have g9 := frz_of E4.out 9
    have c10 := cel C4'.out 10 rfl
    have d10 := cel E4.out 10 rfl
    have g10 := frz_of E4.out 10
    have c11 := cel C4'.out 11 rfl
    have d11 := cel E4.out 11 rfl
    have g11 := frz_of E4.out 11
    have c12 := cel C4'.out 12 rfl
    have d12 := cel E4.out 12 rfl
    have g12 := frz_of E4.out 12
    go_wp2_with fail
    refine bodyPost_ret (v := .agg #[.int .i64 t.kd, .slice (some ⟨W.heap.size, 0, none⟩) t.path.length t.path.length, .int .i64 t.pl, .string t.nm, .string t.tn, .int .i64 t.sh.kd, .slice r1 rn1 rm1, .slice r2 rn2 rm2, .slice r3 rn3 rm3, .int .i64 t.ws.kd, .slice s1 sn1 sm1, .slice s2 sn2 sm2, .slice s3 sn3 sm3]) ?_ rfl ?_
    · simp [results, Tryd.results8, go_sem, d0, d1, d2, d3, d4, d5, d6, d7, d8, d9, d10, d11, d12]
    · exact ed_end (b1 := w.heap.size + 1) (b2 := w.heap.size + 1 + 1) K1.out K2.out y3 y4 (by omega) (by have := WS.out; omega) (by have := WS.out; omega) (by omega) O1.out OX1.out.size P12.out O2.out N2.out OX2.out.size P23.out O3.out N3.out ((((((((((((((HY.out.mono (fun g hg => by simp at hg; simp [hg])).set (by simp) 0 _).set (by simp) 1 _).set (by simp) 2 _).set (by simp) 3 _).set (by simp) 4 _).set (by simp) 5 _).set (by simp) 6 _).set (by simp) 7 _).set (by simp) 8 _).set (by simp) 9 _).set (by simp) 10 _).set (by simp) 11 _).set (by simp) 12 _) B1.out B0.out.size Z1.out
end Go.Proofs.YtfdhmkmeffgkgaaDoor
