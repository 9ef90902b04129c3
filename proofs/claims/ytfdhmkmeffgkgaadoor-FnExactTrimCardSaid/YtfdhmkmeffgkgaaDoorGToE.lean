/- Walks: laws.toEdit. · Rows of Edits. · Rows of Edits of the call's own; walk: laws.toEditS. -/
import Derived.Test.YtfdhmkmeffgkgaaDoorGEdP
import Derived.Test.YtfdhmkmeffgkgaaDoorGToW
import Derived.Test.YtfdhmkmeffgkgaaDoorGMarkTW
import Derived.Test.YtfdhmkmeffgkgaaDoorGShaO
namespace Go.Proofs.YtfdhmkmeffgkgaaDoor
open Go.RowKit

/-- What toEdit leaves. -/
def EdPost (t : Ed) (w : World) (e : Ending) (w' : World) : Prop := ∃ v F, e = .returned v ∧ OwnEd w' w.heap.size t v F ∧ F.Nodup ∧ Below w.heap.size w w'

theorem put4s {w : World} {b : Nat} {T : TypeId} {c : Array Value} (h : w.heap[b]? = some (.cells c T (0, 0))) (i0 i1 i2 i3 : Nat) (v0 v1 v2 v3 : Value) :
    ((((w.setCell ⟨b, i0, none⟩ v0).setCell ⟨b, i1, none⟩ v1).setCell ⟨b, i2, none⟩ v2).setCell ⟨b, i3, none⟩ v3).heap[b]? = some (.cells ((((c.setIfInBounds i0 v0).setIfInBounds i1 v1).setIfInBounds i2 v2).setIfInBounds i3 v3) T (0, 0)) ∧
    Only [b] w ((((w.setCell ⟨b, i0, none⟩ v0).setCell ⟨b, i1, none⟩ v1).setCell ⟨b, i2, none⟩ v2).setCell ⟨b, i3, none⟩ v3) :=
  ⟨blk_set (blk_set (blk_set (blk_set h i0 v0) i1 v1) i2 v2) i3 v3, ((((Only.refl [b] w).set (by simp) i0 v0).set (by simp) i1 v1).set (by simp) i2 v2).set (by simp) i3 v3⟩

theorem ed_end {t : Ed} {w w1 w2 w3 w4 : World} {b1 b2 B1 B2 B3 : Nat} {p0 p1 p2 p3 q1 q2 q3 : Option Addr} {m0 n1 m1 n2 m2 n3 m3 i1 j1 i2 j2 i3 j3 : Nat} {F1 F2 : List Nat} (i1' : InI64' t.kd) (i2' : InI64' t.pl) (s3 : t.nm.size ≤ 9223372036854775807) (s4 : t.tn.size ≤ 9223372036854775807)
    (h0 : w.heap.size ≤ b1) (h01 : b1 < B1) (h02 : b2 < B1) (hb0 : w.heap.size ≤ b2)
    (ho1 : OwnStrs w1 B1 (.slice p0 t.path.length m0) t.path) (hz1 : w1.heap.size ≤ B2) (o12 : Only [b2] w1 w2)
    (ho2 : OwnSh w2 B2 t.sh (.agg #[.int .i64 t.sh.kd, .slice p1 n1 m1, .slice p2 n2 m2, .slice p3 n3 m3]) F1) (hn2 : F1.Nodup) (hz2 : w2.heap.size ≤ B3) (o23 : Only [b2] w2 w3)
    (ho3 : OwnSh w3 B3 t.ws (.agg #[.int .i64 t.ws.kd, .slice q1 i1 j1, .slice q2 i2 j2, .slice q3 i3 j3]) F2) (hn3 : F2.Nodup) (o34 : Only [b1, b2] w3 w4) (hb : Below w.heap.size w w1) (hB : w.heap.size ≤ B1) (hB1 : B1 ≤ w1.heap.size) :
    EdPost t w (.returned (.agg #[.int .i64 t.kd, .slice p0 t.path.length m0, .int .i64 t.pl, .string t.nm, .string t.tn, .int .i64 t.sh.kd, .slice p1 n1 m1, .slice p2 n2 m2, .slice p3 n3 m3, .int .i64 t.ws.kd, .slice q1 i1 j1, .slice q2 i2 j2, .slice q3 i3 j3])) w4 := by
  have k1 := blkOf_own ho1.2
  have k2 := OwnSh.blocks _ _ _ ho2
  have k3 := OwnSh.blocks _ _ _ ho3
  have zb := hb.size
  have z12 := o12.size
  have z23 := o23.size
  have e12 : ∀ g, g < w1.heap.size → g ≠ b2 → w2.heap[g]? = w1.heap[g]? := fun g h1 h2 => o12.block g h1 (by simpa using h2)
  have e23 : ∀ g, g < w2.heap.size → g ≠ b2 → w3.heap[g]? = w2.heap[g]? := fun g h1 h2 => o23.block g h1 (by simpa using h2)
  have e34 : ∀ g, g < w3.heap.size → g ≠ b2 → g ≠ b1 → w4.heap[g]? = w3.heap[g]? := fun g h1 h2 h3 => o34.block g h1 (by simp; exact ⟨h3, h2⟩)
  refine ⟨_, _, rfl, ⟨_, _, _, _, _, _, _, _, _, _, _, _, _, _, _, _, _, _, _, _, F1, F2, rfl, i1', i2', s3, s4, ⟨ho1.1, own_mono (own_block ho1.2 fun g hg => ?_) hB⟩, OwnSh.move (by omega) _ _ _ (fun g hg => ?_) ho2, OwnSh.move (by omega) _ _ _ (fun g hg => ?_) ho3, rfl⟩, ?_, ?_⟩
  · have := k1 g hg
    rw [e34 g (by omega) (by omega) (by omega), e23 g (by omega) (by omega), e12 g (by omega) (by omega)]
  · have := k2 g hg
    rw [e34 g (by omega) (by omega) (by omega), e23 g (by omega) (by omega)]
  · have := k3 g hg
    rw [e34 g (by omega) (by omega) (by omega)]
  · refine List.nodup_append.2 ⟨?_, List.nodup_append.2 ⟨hn2, hn3, fun a ha b hb he => ?_⟩, fun a ha b hb he => ?_⟩
    · cases p0 <;> simp [blkOf]
    · have := k2 a ha; have := k3 b hb; omega
    · have := k1 a ha
      rcases List.mem_append.1 hb with hb | hb
      · have := k2 b hb; omega
      · have := k3 b hb; omega
  · exact ((hb.trans (o12.below (by have := hb.size; omega) (by simpa using hb0))).trans (o23.below (by have := hb.size; omega) (by simpa using hb0))).trans (o34.below (by have := hb.size; omega) (by simp; exact ⟨h0, hb0⟩))

set_option maxRecDepth 100000 in
set_option maxHeartbeats 2000000 in
theorem toEd_any (t : Ed) (v : Value) (w : World) (h : IsEd w t v) (hs : t.sz ≤ 1048576) :
    Calls Tryd.prog 8 #[v] w (EdPost t w) := by
  obtain ⟨p0, m0, p1, n1, m1, p2, n2, m2, p3, n3, m3, q1, i1, j1, q2, i2, j2, q3, i3, j3, rfl, k1, k2, y3, y4, h5, h6, h7⟩ := h
  unfold Ed.sz at hs
  have l1 : Hid (t.path.length ≤ 1048576) := by show _ ≤ _; unfold strsSz at hs; omega
  have l2 : Hid (t.sh.sz ≤ 1048576) := by show _ ≤ _; omega
  have l3 : Hid (t.ws.sz ≤ 1048576) := by show _ ≤ _; omega
  obtain ⟨W, hW⟩ : ∃ W, W = ((w.alloc (.cells #[.int .i64 t.kd, .slice p0 t.path.length m0, .int .i64 t.pl, .string t.nm, .string t.tn, .int .i64 t.sh.kd, .slice p1 n1 m1, .slice p2 n2 m2, .slice p3 n3 m3, .int .i64 t.ws.kd, .slice q1 i1 j1, .slice q2 i2 j2, .slice q3 i3 j3] 27)).alloc (.cells #[.int .i64 0, .slice none 0 0, .int .i64 0, .string ⟨#[]⟩, .string ⟨#[]⟩, .int .i64 0, .slice none 0 0, .slice none 0 0, .slice none 0 0, .int .i64 0, .slice none 0 0, .slice none 0 0, .slice none 0 0] 33)).alloc (.cells #[.int .i64 t.kd, .slice none 0 0, .int .i64 0, .string ⟨#[]⟩, .string ⟨#[]⟩, .int .i64 0, .slice none 0 0, .slice none 0 0, .slice none 0 0, .int .i64 0, .slice none 0 0, .slice none 0 0, .slice none 0 0] 33) := ⟨_, rfl⟩
  have hx := three_new w (.cells #[.int .i64 t.kd, .slice p0 t.path.length m0, .int .i64 t.pl, .string t.nm, .string t.tn, .int .i64 t.sh.kd, .slice p1 n1 m1, .slice p2 n2 m2, .slice p3 n3 m3, .int .i64 t.ws.kd, .slice q1 i1 j1, .slice q2 i2 j2, .slice q3 i3 j3] 27) (.cells #[.int .i64 0, .slice none 0 0, .int .i64 0, .string ⟨#[]⟩, .string ⟨#[]⟩, .int .i64 0, .slice none 0 0, .slice none 0 0, .slice none 0 0, .int .i64 0, .slice none 0 0, .slice none 0 0, .slice none 0 0] 33) (.cells #[.int .i64 t.kd, .slice none 0 0, .int .i64 0, .string ⟨#[]⟩, .string ⟨#[]⟩, .int .i64 0, .slice none 0 0, .slice none 0 0, .slice none 0 0, .int .i64 0, .slice none 0 0, .slice none 0 0, .slice none 0 0] 33)
  have hbw := ((below_alloc w (.cells #[.int .i64 t.kd, .slice p0 t.path.length m0, .int .i64 t.pl, .string t.nm, .string t.tn, .int .i64 t.sh.kd, .slice p1 n1 m1, .slice p2 n2 m2, .slice p3 n3 m3, .int .i64 t.ws.kd, .slice q1 i1 j1, .slice q2 i2 j2, .slice q3 i3 j3] 27)).alloc (by simp) (.cells #[.int .i64 0, .slice none 0 0, .int .i64 0, .string ⟨#[]⟩, .string ⟨#[]⟩, .int .i64 0, .slice none 0 0, .slice none 0 0, .slice none 0 0, .int .i64 0, .slice none 0 0, .slice none 0 0, .slice none 0 0] 33)).alloc (by simp; omega) (.cells #[.int .i64 t.kd, .slice none 0 0, .int .i64 0, .string ⟨#[]⟩, .string ⟨#[]⟩, .int .i64 0, .slice none 0 0, .slice none 0 0, .slice none 0 0, .int .i64 0, .slice none 0 0, .slice none 0 0, .slice none 0 0] 33)
  have hws : W.heap.size = w.heap.size + 1 + 1 + 1 := by rw [hW]; simp
  rw [← hW] at hx hbw
  have A0 := Lib.hid hx.1
  have D0 := Lib.hid hx.2.1
  have C0 := Lib.hid hx.2.2
  have B0 := Lib.hid hbw
  have HW := Lib.hid hW
  have WS := Lib.hid hws
  have K1 := Lib.hid k1
  have K2 := Lib.hid k2
  have H5 := Lib.hid (h5.keep (Keeps.of_below hbw))
  have H6 := Lib.hid h6
  have H7 := Lib.hid h7
  clear hx hbw hW hws h5 h6 h7 k1 k2 hs
  go_enter Tryd.func8, Tryd.ntmps8
  have a0 := cel A0.out 0 rfl
  have a1 := cel A0.out 1 rfl
  have c0 := cel C0.out 0 rfl
  have f0 := frz_of C0.out 0
  go_wp2_with fail
  rw [← HW.out]
  refine (toStrs_any _ t.path _ H5.out l1.out).mono ?_
  rintro e w1 ⟨rfl, ho1, hb1, hz1⟩
  have A1 := Lib.hid (blk_below A0.out hb1 (Array.getElem?_eq_some_iff.1 A0.out).1)
  have C1 := Lib.hid (blk_below C0.out hb1 (Array.getElem?_eq_some_iff.1 C0.out).1)
  have D1 := Lib.hid (blk_below D0.out hb1 (by have := WS.out; omega))
  have O1 := Lib.hid ho1
  have B1 := Lib.hid (B0.out.trans (hb1.mono B0.out.size))
  have Z1 := Lib.hid hb1.size
  clear ho1 hb1 hz1
  clear a0 a1 c0 f0
  have a2 := cel A1.out 2 rfl
  have a3 := cel A1.out 3 rfl
  have a4 := cel A1.out 4 rfl
  have a5 := cel A1.out 5 rfl
  have a6 := cel A1.out 6 rfl
  have a7 := cel A1.out 7 rfl
  have a8 := cel A1.out 8 rfl
  have c1 := cel C1.out 1 rfl
  have f1 := frz_of C1.out 1
  have c2 := cel C1.out 2 rfl
  have f2 := frz_of C1.out 2
  have c3 := cel C1.out 3 rfl
  have f3 := frz_of C1.out 3
  have c4 := cel C1.out 4 rfl
  have f4 := frz_of C1.out 4
  go_wp2_with fail
  have hp := put4s C1.out 1 2 3 4 (.slice (some ⟨W.heap.size, 0, none⟩) t.path.length t.path.length) (.int .i64 t.pl) (.string t.nm) (.string t.tn)
  obtain ⟨X1, hX1⟩ : ∃ X, X = (((w1.setCell ⟨w.heap.size + 1 + 1, 1, none⟩ (.slice (some ⟨W.heap.size, 0, none⟩) t.path.length t.path.length)).setCell ⟨w.heap.size + 1 + 1, 2, none⟩ (.int .i64 t.pl)).setCell ⟨w.heap.size + 1 + 1, 3, none⟩ (.string t.nm)).setCell ⟨w.heap.size + 1 + 1, 4, none⟩ (.string t.tn) := ⟨_, rfl⟩
  rw [← hX1] at hp ⊢
  have OX1 := Lib.hid hp.2
  have C2 := Lib.hid (show X1.heap[w.heap.size + 1 + 1]? = some (Obj.cells #[.int .i64 t.kd, .slice (some ⟨W.heap.size, 0, none⟩) t.path.length t.path.length, .int .i64 t.pl, .string t.nm, .string t.tn, .int .i64 0, .slice none 0 0, .slice none 0 0, .slice none 0 0, .int .i64 0, .slice none 0 0, .slice none 0 0, .slice none 0 0] 33 (0, 0)) from by simpa only [List.setIfInBounds_toArray, List.set_cons_zero, List.set_cons_succ] using hp.1)
  have A2 := Lib.hid ((hp.2.block _ (Array.getElem?_eq_some_iff.1 A1.out).1 (by simp; omega)).trans A1.out)
  have D2 := Lib.hid ((hp.2.block (w.heap.size + 1) (by have := Z1.out; have := WS.out; omega) (by simp)).trans D1.out)
  have B2 := Lib.hid (B1.out.trans (hp.2.below B1.out.size (by simp; omega)))
  have Z2 := Lib.hid (Nat.le_trans Z1.out hp.2.size)
  clear hp hX1
  clear a2 a3 a4 a5 a6 a7 a8 c1 f1 c2 f2 c3 f3 c4 f4
  refine (toSh_any t.sh _ X1 (IsSh.keep (Keeps.of_below B2.out) _ _ H6.out) l2.out).mono ?_
  rintro e w2 ⟨c0, c1, c2, c3, G2, rfl, ho, hn, hb⟩
  obtain ⟨r1, rn1, rm1, r2, rn2, rm2, r3, rn3, rm3, rfl, rfl, rfl, rfl⟩ := (OwnSh.is _ _ _ ho).cells
  have O2 := Lib.hid ho
  have N2 := Lib.hid hn
  have S2B := Lib.hid hb
  have A3 := Lib.hid (blk_below A2.out hb (Array.getElem?_eq_some_iff.1 A2.out).1)
  have C3 := Lib.hid (blk_below C2.out hb (Array.getElem?_eq_some_iff.1 C2.out).1)
  have D3 := Lib.hid (blk_below D2.out hb (Array.getElem?_eq_some_iff.1 D2.out).1)
  have B3 := Lib.hid (B2.out.trans (hb.mono B2.out.size))
  have Z3 := Lib.hid (Nat.le_trans Z2.out hb.size)
  clear ho hn hb
  have a9 := cel A3.out 9 rfl
  have a10 := cel A3.out 10 rfl
  have a11 := cel A3.out 11 rfl
  have a12 := cel A3.out 12 rfl
  have c5 := cel C3.out 5 rfl
  have f5 := frz_of C3.out 5
  have c6 := cel C3.out 6 rfl
  have f6 := frz_of C3.out 6
  have c7 := cel C3.out 7 rfl
  have f7 := frz_of C3.out 7
  have c8 := cel C3.out 8 rfl
  have f8 := frz_of C3.out 8
  go_upto_region 8 with fail
  have hp := put4s C3.out 5 6 7 8 (.int .i64 t.sh.kd) (.slice r1 rn1 rm1) (.slice r2 rn2 rm2) (.slice r3 rn3 rm3)
  obtain ⟨X2, hX2⟩ : ∃ X, X = (((w2.setCell ⟨w.heap.size + 1 + 1, 5, none⟩ (.int .i64 t.sh.kd)).setCell ⟨w.heap.size + 1 + 1, 6, none⟩ (.slice r1 rn1 rm1)).setCell ⟨w.heap.size + 1 + 1, 7, none⟩ (.slice r2 rn2 rm2)).setCell ⟨w.heap.size + 1 + 1, 8, none⟩ (.slice r3 rn3 rm3) := ⟨_, rfl⟩
  rw [← hX2] at hp ⊢
  have OX2 := Lib.hid hp.2
  have C4 := Lib.hid (show X2.heap[w.heap.size + 1 + 1]? = some (Obj.cells #[.int .i64 t.kd, .slice (some ⟨W.heap.size, 0, none⟩) t.path.length t.path.length, .int .i64 t.pl, .string t.nm, .string t.tn, .int .i64 t.sh.kd, .slice r1 rn1 rm1, .slice r2 rn2 rm2, .slice r3 rn3 rm3, .int .i64 0, .slice none 0 0, .slice none 0 0, .slice none 0 0] 33 (0, 0)) from by simpa only [List.setIfInBounds_toArray, List.set_cons_zero, List.set_cons_succ] using hp.1)
  have A4 := Lib.hid ((hp.2.block _ (Array.getElem?_eq_some_iff.1 A3.out).1 (by simp; omega)).trans A3.out)
  have D4 := Lib.hid ((hp.2.block (w.heap.size + 1) (by have := Z3.out; have := WS.out; omega) (by simp)).trans D3.out)
  have B4 := Lib.hid (B3.out.trans (hp.2.below B3.out.size (by simp; omega)))
  have Z4 := Lib.hid (Nat.le_trans Z3.out hp.2.size)
  clear hp hX2
  clear a9 a10 a11 a12 c5 f5 c6 f6 c7 f7 c8 f8
  go_cut [3] (fun x wc => x = .pointer (some ⟨w.heap.size + 1 + 1, 0, none⟩) ∧ Hid (∃ s1 sn1 sm1 s2 sn2 sm2 s3 sn3 sm3 G3 w3, OwnSh w3 X2.heap.size t.ws (.agg #[.int .i64 t.ws.kd, .slice s1 sn1 sm1, .slice s2 sn2 sm2, .slice s3 sn3 sm3]) G3 ∧ G3.Nodup ∧ Below X2.heap.size X2 w3 ∧ Only [w.heap.size + 1 + 1] w3 wc ∧ wc.heap[w.heap.size + 1 + 1]? = some (.cells #[.int .i64 t.kd, .slice (some ⟨W.heap.size, 0, none⟩) t.path.length t.path.length, .int .i64 t.pl, .string t.nm, .string t.tn, .int .i64 t.sh.kd, .slice r1 rn1 rm1, .slice r2 rn2 rm2, .slice r3 rn3 rm3, .int .i64 t.ws.kd, .slice s1 sn1 sm1, .slice s2 sn2 sm2, .slice s3 sn3 sm3] 33 (0, 0))))
  case first =>
    have a9 := cel A4.out 9 rfl
    have a10 := cel A4.out 10 rfl
    have a11 := cel A4.out 11 rfl
    have a12 := cel A4.out 12 rfl
    go_wp2_with fail
    refine (toSh_any t.ws _ X2 (IsSh.keep (Keeps.of_below B4.out) _ _ H7.out) l3.out).mono ?_
    rintro e w3 ⟨c0, c1, c2, c3, G3, rfl, ho, hn, hb⟩
    obtain ⟨s1, sn1, sm1, s2, sn2, sm2, s3, sn3, sm3, rfl, rfl, rfl, rfl⟩ := (OwnSh.is _ _ _ ho).cells
    have O3 := Lib.hid ho
    have N3 := Lib.hid hn
    have S3B := Lib.hid hb
    have A5 := Lib.hid (blk_below A4.out hb (Array.getElem?_eq_some_iff.1 A4.out).1)
    have C5 := Lib.hid (blk_below C4.out hb (Array.getElem?_eq_some_iff.1 C4.out).1)
    have D5 := Lib.hid (blk_below D4.out hb (Array.getElem?_eq_some_iff.1 D4.out).1)
    have B5 := Lib.hid (B4.out.trans (hb.mono B4.out.size))
    have Z5 := Lib.hid (Nat.le_trans Z4.out hb.size)
    clear ho hn hb
    have c9 := cel C5.out 9 rfl
    have f9 := frz_of C5.out 9
    have c10 := cel C5.out 10 rfl
    have f10 := frz_of C5.out 10
    have c11 := cel C5.out 11 rfl
    have f11 := frz_of C5.out 11
    have c12 := cel C5.out 12 rfl
    have f12 := frz_of C5.out 12
    go_wp2_with fail
    have hp := put4s C5.out 9 10 11 12 (.int .i64 t.ws.kd) (.slice s1 sn1 sm1) (.slice s2 sn2 sm2) (.slice s3 sn3 sm3)
    go_meet
    exact ⟨rfl, _, _, _, _, _, _, _, _, _, _, _, O3.out, N3.out, S3B.out, hp.2, show _ = some (Obj.cells #[.int .i64 t.kd, .slice (some ⟨W.heap.size, 0, none⟩) t.path.length t.path.length, .int .i64 t.pl, .string t.nm, .string t.tn, .int .i64 t.sh.kd, .slice r1 rn1 rm1, .slice r2 rn2 rm2, .slice r3 rn3 rm3, .int .i64 t.ws.kd, .slice s1 sn1 sm1, .slice s2 sn2 sm2, .slice s3 sn3 sm3] 33 (0, 0)) from by simpa only [List.setIfInBounds_toArray, List.set_cons_zero, List.set_cons_succ] using hp.1⟩
  case rest =>
    rename World => W4
    obtain ⟨rfl, hc⟩ := hcut
    obtain ⟨s1, sn1, sm1, s2, sn2, sm2, s3, sn3, sm3, G3, w3, ho3, hn3, hb3, hy, hx⟩ := hc.out
    have E3 := blk_below D4.out hb3 (Array.getElem?_eq_some_iff.1 D4.out).1
    have E4 := Lib.hid ((hy.block (w.heap.size + 1) (Array.getElem?_eq_some_iff.1 E3).1 (by simp)).trans E3)
    have C4' := Lib.hid hx
    have O3 := Lib.hid ho3
    have N3 := Lib.hid hn3
    have HY := Lib.hid hy
    have P12 := Lib.hid (OX1.out.trans (Only.of_below S2B.out))
    have P23 := Lib.hid (OX2.out.trans (Only.of_below hb3))
    clear hc E3 hx ho3 hn3 hy hb3
    have c0 := cel C4'.out 0 rfl
    have d0 := cel E4.out 0 rfl
    have g0 := frz_of E4.out 0
    have c1 := cel C4'.out 1 rfl
    have d1 := cel E4.out 1 rfl
    have g1 := frz_of E4.out 1
    have c2 := cel C4'.out 2 rfl
    have d2 := cel E4.out 2 rfl
    have g2 := frz_of E4.out 2
    have c3 := cel C4'.out 3 rfl
    have d3 := cel E4.out 3 rfl
    have g3 := frz_of E4.out 3
    have c4 := cel C4'.out 4 rfl
    have d4 := cel E4.out 4 rfl
    have g4 := frz_of E4.out 4
    have c5 := cel C4'.out 5 rfl
    have d5 := cel E4.out 5 rfl
    have g5 := frz_of E4.out 5
    have c6 := cel C4'.out 6 rfl
    have d6 := cel E4.out 6 rfl
    have g6 := frz_of E4.out 6
    have c7 := cel C4'.out 7 rfl
    have d7 := cel E4.out 7 rfl
    have g7 := frz_of E4.out 7
    have c8 := cel C4'.out 8 rfl
    have d8 := cel E4.out 8 rfl
    have g8 := frz_of E4.out 8
    have c9 := cel C4'.out 9 rfl
    have d9 := cel E4.out 9 rfl
    have g9 := frz_of E4.out 9
    have c10 := cel C4'.out 10 rfl
    have d10 := cel E4.out 10 rfl
    have g10 := frz_of E4.out 10
    have c11 := cel C4'.out 11 rfl
    have d11 := cel E4.out 11 rfl
    have g11 := frz_of E4.out 11
    have c12 := cel C4'.out 12 rfl
    have d12 := cel E4.out 12 rfl
    have g12 := frz_of E4.out 12
    go_wp2_with fail
    refine bodyPost_ret (v := .agg #[.int .i64 t.kd, .slice (some ⟨W.heap.size, 0, none⟩) t.path.length t.path.length, .int .i64 t.pl, .string t.nm, .string t.tn, .int .i64 t.sh.kd, .slice r1 rn1 rm1, .slice r2 rn2 rm2, .slice r3 rn3 rm3, .int .i64 t.ws.kd, .slice s1 sn1 sm1, .slice s2 sn2 sm2, .slice s3 sn3 sm3]) ?_ rfl ?_
    · simp [results, Tryd.results8, go_sem, d0, d1, d2, d3, d4, d5, d6, d7, d8, d9, d10, d11, d12]
    · exact ed_end (b1 := w.heap.size + 1) (b2 := w.heap.size + 1 + 1) K1.out K2.out y3 y4 (by omega) (by have := WS.out; omega) (by have := WS.out; omega) (by omega) O1.out OX1.out.size P12.out O2.out N2.out OX2.out.size P23.out O3.out N3.out ((((((((((((((HY.out.mono (fun g hg => by simp at hg; simp [hg])).set (by simp) 0 _).set (by simp) 1 _).set (by simp) 2 _).set (by simp) 3 _).set (by simp) 4 _).set (by simp) 5 _).set (by simp) 6 _).set (by simp) 7 _).set (by simp) 8 _).set (by simp) 9 _).set (by simp) 10 _).set (by simp) 11 _).set (by simp) 12 _) B1.out B0.out.size Z1.out
end Go.Proofs.YtfdhmkmeffgkgaaDoor
namespace Go.Proofs.YtfdhmkmeffgkgaaDoor
open Go.ChangeShapes Go.WideShapes Go.Joins Go.RowKit

/-- Rows of thirteen cells that hold the Edits l. -/
def EdAt (w : World) (b off : Nat) (l : List Ed) : Prop := ∀ i (h : i < l.length), ∃ c0 c1 c2 c3 c4 c5 c6 c7 c8 c9 c10 c11 c12, w.cell? ⟨b, off + i * 13, none⟩ = some c0 ∧ w.cell? ⟨b, off + i * 13 + 1, none⟩ = some c1 ∧ w.cell? ⟨b, off + i * 13 + 2, none⟩ = some c2 ∧ w.cell? ⟨b, off + i * 13 + 3, none⟩ = some c3 ∧ w.cell? ⟨b, off + i * 13 + 4, none⟩ = some c4 ∧ w.cell? ⟨b, off + i * 13 + 5, none⟩ = some c5 ∧ w.cell? ⟨b, off + i * 13 + 6, none⟩ = some c6 ∧ w.cell? ⟨b, off + i * 13 + 7, none⟩ = some c7 ∧ w.cell? ⟨b, off + i * 13 + 8, none⟩ = some c8 ∧ w.cell? ⟨b, off + i * 13 + 9, none⟩ = some c9 ∧ w.cell? ⟨b, off + i * 13 + 10, none⟩ = some c10 ∧ w.cell? ⟨b, off + i * 13 + 11, none⟩ = some c11 ∧ w.cell? ⟨b, off + i * 13 + 12, none⟩ = some c12 ∧ IsEd w l[i] (.agg #[c0, c1, c2, c3, c4, c5, c6, c7, c8, c9, c10, c11, c12])
theorem EdAt.keep {w w' : World} {b off : Nat} {l : List Ed} (h : EdAt w b off l) (hk : Keeps w w') : EdAt w' b off l := fun i hi => by
  obtain ⟨c0, c1, c2, c3, c4, c5, c6, c7, c8, c9, c10, c11, c12, g0, g1, g2, g3, g4, g5, g6, g7, g8, g9, g10, g11, g12, g13⟩ := h i hi
  exact ⟨c0, c1, c2, c3, c4, c5, c6, c7, c8, c9, c10, c11, c12, hk _ _ _ g0, hk _ _ _ g1, hk _ _ _ g2, hk _ _ _ g3, hk _ _ _ g4, hk _ _ _ g5, hk _ _ _ g6, hk _ _ _ g7, hk _ _ _ g8, hk _ _ _ g9, hk _ _ _ g10, hk _ _ _ g11, hk _ _ _ g12, g13.keep hk⟩
/-- A slice whose elements are the Edits l. -/
def IsEds (w : World) (v : Value) (l : List Ed) : Prop :=
  ∃ a cap, v = .slice a l.length cap ∧ l.length ≤ cap ∧ cap ≤ 9223372036854775807 ∧ (l = [] ∨ ∃ b off, a = some ⟨b, off, none⟩ ∧ EdAt w b off l)
theorem IsEds.keep {w w' : World} {v : Value} {l : List Ed} (h : IsEds w v l) (hk : Keeps w w') : IsEds w' v l := by
  obtain ⟨a, cap, h3, h4, h5, h6⟩ := h
  refine ⟨a, cap, h3, h4, h5, ?_⟩
  rcases h6 with h6 | ⟨b, off, rfl, h6⟩
  · exact .inl h6
  · exact .inr ⟨b, off, rfl, h6.keep hk⟩
theorem IsEds.at {w : World} {a : Option Addr} {l : List Ed} (h6 : l = [] ∨ ∃ b off, a = some ⟨b, off, none⟩ ∧ EdAt w b off l) {k : Nat} (hk : k < l.length) :
    ∃ b off, a = some ⟨b, off, none⟩ ∧ ∃ c0 c1 c2 c3 c4 c5 c6 c7 c8 c9 c10 c11 c12, w.cell? ⟨b, off + k * 13, none⟩ = some c0 ∧ w.cell? ⟨b, off + k * 13 + 1, none⟩ = some c1 ∧ w.cell? ⟨b, off + k * 13 + 2, none⟩ = some c2 ∧ w.cell? ⟨b, off + k * 13 + 3, none⟩ = some c3 ∧ w.cell? ⟨b, off + k * 13 + 4, none⟩ = some c4 ∧ w.cell? ⟨b, off + k * 13 + 5, none⟩ = some c5 ∧ w.cell? ⟨b, off + k * 13 + 6, none⟩ = some c6 ∧ w.cell? ⟨b, off + k * 13 + 7, none⟩ = some c7 ∧ w.cell? ⟨b, off + k * 13 + 8, none⟩ = some c8 ∧ w.cell? ⟨b, off + k * 13 + 9, none⟩ = some c9 ∧ w.cell? ⟨b, off + k * 13 + 10, none⟩ = some c10 ∧ w.cell? ⟨b, off + k * 13 + 11, none⟩ = some c11 ∧ w.cell? ⟨b, off + k * 13 + 12, none⟩ = some c12 ∧ IsEd w l[k] (.agg #[c0, c1, c2, c3, c4, c5, c6, c7, c8, c9, c10, c11, c12]) := by
  rcases h6 with rfl | ⟨b, off, rfl, h⟩
  · cases hk
  · exact ⟨b, off, rfl, h k hk⟩

def Ed.szs (l : List Ed) : Nat := (l.map Ed.sz).sum
theorem edszs_take (l : List Ed) (k : Nat) (h : k < l.length) : Ed.szs (l.take (k + 1)) = Ed.szs (l.take k) + l[k].sz := by
  unfold Ed.szs
  rw [List.take_succ_eq_append_getElem h, List.map_append, List.sum_append]
  simp
theorem edszs_take_le (l : List Ed) (k : Nat) : Ed.szs (l.take k) ≤ Ed.szs l := by
  induction l generalizing k with
  | nil => simp [Ed.szs]
  | cons x l ih =>
    cases k with
    | zero => simp [Ed.szs]
    | succ k =>
      have := ih k
      simp only [Ed.szs, List.take_succ_cons, List.map_cons, List.sum_cons] at this ⊢
      omega
theorem edsz_mem {l : List Ed} {k : Nat} (h : k < l.length) : l[k].sz ≤ Ed.szs l := by
  have h1 := edszs_take l k h
  have h2 := edszs_take_le l (k + 1)
  omega

section
variable {H : Type} {enc : TypeId × Value → H} {w : World} {base : Nat} {spare : Nat → Bool} {held : Bool}
end
end Go.Proofs.YtfdhmkmeffgkgaaDoor
namespace Go.Proofs.YtfdhmkmeffgkgaaDoor
open Go.RowKit

/-- A row of Edits of the call's own, F their blocks. -/
def OwnAllE (w : World) (base : Nat) : List Ed → List Value → List Nat → Prop
  | [], cs, F => cs = [] ∧ F = []
  | x :: l, cs, F => ∃ c0 c1 c2 c3 c4 c5 c6 c7 c8 c9 c10 c11 c12 cs' F1 F2, cs = c0 :: c1 :: c2 :: c3 :: c4 :: c5 :: c6 :: c7 :: c8 :: c9 :: c10 :: c11 :: c12 :: cs' ∧ OwnEd w base x (.agg #[c0, c1, c2, c3, c4, c5, c6, c7, c8, c9, c10, c11, c12]) F1 ∧ OwnAllE w base l cs' F2 ∧ F = F1 ++ F2
theorem OwnAllE.lt {w : World} {base : Nat} : ∀ {l : List Ed} {cs : List Value} {F : List Nat}, OwnAllE w base l cs F → ∀ g ∈ F, base ≤ g ∧ g < w.heap.size
  | [], cs, F, h => by
    simp only [OwnAllE] at h
    rw [h.2]; intro g hg; cases hg
  | x :: l, cs, F, h => by
    simp only [OwnAllE] at h
    obtain ⟨c0, c1, c2, c3, c4, c5, c6, c7, c8, c9, c10, c11, c12, cs', F1, F2, _, h1, h2, rfl⟩ := h
    intro g hg
    rcases List.mem_append.1 hg with hg | hg
    · exact OwnEd.blocks h1 g hg
    · exact h2.lt g hg
theorem OwnAllE.len {w : World} {base : Nat} : ∀ {l : List Ed} {cs : List Value} {F : List Nat}, OwnAllE w base l cs F → cs.length = l.length * 13
  | [], cs, F, h => by simp only [OwnAllE] at h; rw [h.1]; rfl
  | x :: l, cs, F, h => by
    simp only [OwnAllE] at h
    obtain ⟨c0, c1, c2, c3, c4, c5, c6, c7, c8, c9, c10, c11, c12, cs', F1, F2, rfl, _, h2, _⟩ := h
    have := h2.len
    simp only [List.length_cons]; omega
theorem OwnAllE.move {w w' : World} {base base' : Nat} (hb : base' ≤ base) : ∀ {l : List Ed} {cs : List Value} {F : List Nat}, (∀ g ∈ F, w'.heap[g]? = w.heap[g]?) → OwnAllE w base l cs F → OwnAllE w' base' l cs F
  | [], cs, F, _, h => by simpa only [OwnAllE] using h
  | x :: l, cs, F, e, h => by
    simp only [OwnAllE] at h ⊢
    obtain ⟨c0, c1, c2, c3, c4, c5, c6, c7, c8, c9, c10, c11, c12, cs', F1, F2, rfl, h1, h2, rfl⟩ := h
    exact ⟨c0, c1, c2, c3, c4, c5, c6, c7, c8, c9, c10, c11, c12, cs', F1, F2, rfl, OwnEd.move hb (fun g hg => e g (by simp [hg])) h1, OwnAllE.move hb (fun g hg => e g (by simp [hg])) h2, rfl⟩
theorem OwnAllE.snoc {w : World} {base : Nat} : ∀ {l : List Ed} {cs : List Value} {F : List Nat} {x : Ed} {c0 c1 c2 c3 c4 c5 c6 c7 c8 c9 c10 c11 c12 : Value} {F1 : List Nat}, OwnAllE w base l cs F → OwnEd w base x (.agg #[c0, c1, c2, c3, c4, c5, c6, c7, c8, c9, c10, c11, c12]) F1 → OwnAllE w base (l ++ [x]) (cs ++ [c0, c1, c2, c3, c4, c5, c6, c7, c8, c9, c10, c11, c12]) (F ++ F1)
  | [], cs, F, x, c0, c1, c2, c3, c4, c5, c6, c7, c8, c9, c10, c11, c12, F1, h, hx => by
    simp only [OwnAllE] at h
    obtain ⟨rfl, rfl⟩ := h
    simp only [List.nil_append, OwnAllE]
    exact ⟨c0, c1, c2, c3, c4, c5, c6, c7, c8, c9, c10, c11, c12, [], F1, [], rfl, hx, ⟨rfl, rfl⟩, by simp⟩
  | y :: l, cs, F, x, c0, c1, c2, c3, c4, c5, c6, c7, c8, c9, c10, c11, c12, F1, h, hx => by
    simp only [OwnAllE] at h
    obtain ⟨d0, d1, d2, d3, d4, d5, d6, d7, d8, d9, d10, d11, d12, cs', G1, G2, rfl, h1, h2, rfl⟩ := h
    simp only [List.cons_append, OwnAllE]
    exact ⟨d0, d1, d2, d3, d4, d5, d6, d7, d8, d9, d10, d11, d12, _, G1, _, rfl, h1, h2.snoc hx, by simp⟩
theorem OwnAllE.at {w : World} {base : Nat} : ∀ {l : List Ed} {cs : List Value} {F : List Nat}, OwnAllE w base l cs F → ∀ i (h : i < l.length), ∃ c0 c1 c2 c3 c4 c5 c6 c7 c8 c9 c10 c11 c12 F1, cs[i * 13]? = some c0 ∧ cs[i * 13 + 1]? = some c1 ∧ cs[i * 13 + 2]? = some c2 ∧ cs[i * 13 + 3]? = some c3 ∧ cs[i * 13 + 4]? = some c4 ∧ cs[i * 13 + 5]? = some c5 ∧ cs[i * 13 + 6]? = some c6 ∧ cs[i * 13 + 7]? = some c7 ∧ cs[i * 13 + 8]? = some c8 ∧ cs[i * 13 + 9]? = some c9 ∧ cs[i * 13 + 10]? = some c10 ∧ cs[i * 13 + 11]? = some c11 ∧ cs[i * 13 + 12]? = some c12 ∧ OwnEd w base l[i] (.agg #[c0, c1, c2, c3, c4, c5, c6, c7, c8, c9, c10, c11, c12]) F1
  | [], _, _, _, _, h => by cases h
  | x :: l, cs, F, h, i, hi => by
    simp only [OwnAllE] at h
    obtain ⟨c0, c1, c2, c3, c4, c5, c6, c7, c8, c9, c10, c11, c12, cs', F1, F2, rfl, h1, h2, rfl⟩ := h
    cases i with
    | zero => exact ⟨c0, c1, c2, c3, c4, c5, c6, c7, c8, c9, c10, c11, c12, F1, rfl, rfl, rfl, rfl, rfl, rfl, rfl, rfl, rfl, rfl, rfl, rfl, rfl, h1⟩
    | succ i =>
      obtain ⟨d0, d1, d2, d3, d4, d5, d6, d7, d8, d9, d10, d11, d12, G, g0, g1, g2, g3, g4, g5, g6, g7, g8, g9, g10, g11, g12, g13⟩ := h2.at i (by simpa using hi)
      have e : (i + 1) * 13 = i * 13 + 13 := by omega
      refine ⟨d0, d1, d2, d3, d4, d5, d6, d7, d8, d9, d10, d11, d12, G, ?_, ?_, ?_, ?_, ?_, ?_, ?_, ?_, ?_, ?_, ?_, ?_, ?_, g13⟩ <;> rw [e] <;> simpa using ‹_›

theorem info_edit : (Tryd.prog.info? 33).map (fun i => (i.zero, i.size, i.bytes)) = some (some (.agg #[.int .i64 0, .slice none 0 0, .int .i64 0, .string ⟨#[]⟩, .string ⟨#[]⟩, .int .i64 0, .slice none 0 0, .slice none 0 0, .slice none 0 0, .int .i64 0, .slice none 0 0, .slice none 0 0, .slice none 0 0]), 13, 232) := by kernel_rfl
/-- make([]impl.Edit, n). -/
theorem make_edits (n : Nat) (h : n ≤ 1048576) (w : World) :
    (Instr.makeSlice 41 (.int .i64 (n : Int)) (.int .i64 (n : Int))).run Tryd.prog w = .ok (.slice (some ⟨w.heap.size, 0, none⟩) n n) (w.alloc (.cells (madeCells #[.int .i64 0, .slice none 0 0, .int .i64 0, .string ⟨#[]⟩, .string ⟨#[]⟩, .int .i64 0, .slice none 0 0, .slice none 0 0, .slice none 0 0, .int .i64 0, .slice none 0 0, .slice none 0 0, .slice none 0 0] (n * 13)) 33)) := by
  obtain ⟨i, hi, hz, hs, hb⟩ := info_parts info_edit
  have := run_make (P := Tryd.prog) w 41 33 i _ Tryd.underlying41 hi hz .i64 .i64 n n (by omega) (Int.le_refl _) (by rw [hb]; omega) (by omega)
  simpa [hs, Value.cells] using this

theorem Filled.set13 {w : World} {g : Nat} {T : TypeId} {A : List Value} {n : Nat} (h : Filled w g T A (n + 13)) (c0 c1 c2 c3 c4 c5 c6 c7 c8 c9 c10 c11 c12 : Value) {k : Nat} (hk : k = A.length) :
    Filled (((((((((((((w.setCell ⟨g, k, none⟩ c0).setCell ⟨g, k + 1, none⟩ c1).setCell ⟨g, k + 2, none⟩ c2).setCell ⟨g, k + 3, none⟩ c3).setCell ⟨g, k + 4, none⟩ c4).setCell ⟨g, k + 5, none⟩ c5).setCell ⟨g, k + 6, none⟩ c6).setCell ⟨g, k + 7, none⟩ c7).setCell ⟨g, k + 8, none⟩ c8).setCell ⟨g, k + 9, none⟩ c9).setCell ⟨g, k + 10, none⟩ c10).setCell ⟨g, k + 11, none⟩ c11).setCell ⟨g, k + 12, none⟩ c12) g T (A ++ [c0, c1, c2, c3, c4, c5, c6, c7, c8, c9, c10, c11, c12]) n := by
  have h0 := h.set c0 hk
  have h1 := h0.set c1 (k := k + 1) (by simp [hk])
  have h2 := h1.set c2 (k := k + 2) (by simp [hk])
  have h3 := h2.set c3 (k := k + 3) (by simp [hk])
  have h4 := h3.set c4 (k := k + 4) (by simp [hk])
  have h5 := h4.set c5 (k := k + 5) (by simp [hk])
  have h6 := h5.set c6 (k := k + 6) (by simp [hk])
  have h7 := h6.set c7 (k := k + 7) (by simp [hk])
  have h8 := h7.set c8 (k := k + 8) (by simp [hk])
  have h9 := h8.set c9 (k := k + 9) (by simp [hk])
  have h10 := h9.set c10 (k := k + 10) (by simp [hk])
  have h11 := h10.set c11 (k := k + 11) (by simp [hk])
  have h12 := h11.set c12 (k := k + 12) (by simp [hk])
  simpa using h12
theorem set13_other {w : World} {g k : Nat} {c0 c1 c2 c3 c4 c5 c6 c7 c8 c9 c10 c11 c12 : Value} {b : Nat} (h : b ≠ g) : (((((((((((((w.setCell ⟨g, k, none⟩ c0).setCell ⟨g, k + 1, none⟩ c1).setCell ⟨g, k + 2, none⟩ c2).setCell ⟨g, k + 3, none⟩ c3).setCell ⟨g, k + 4, none⟩ c4).setCell ⟨g, k + 5, none⟩ c5).setCell ⟨g, k + 6, none⟩ c6).setCell ⟨g, k + 7, none⟩ c7).setCell ⟨g, k + 8, none⟩ c8).setCell ⟨g, k + 9, none⟩ c9).setCell ⟨g, k + 10, none⟩ c10).setCell ⟨g, k + 11, none⟩ c11).setCell ⟨g, k + 12, none⟩ c12).heap[b]? = w.heap[b]? := by
  rw [Below.heap_setCell _ _ _ _ h, Below.heap_setCell _ _ _ _ h, Below.heap_setCell _ _ _ _ h, Below.heap_setCell _ _ _ _ h, Below.heap_setCell _ _ _ _ h, Below.heap_setCell _ _ _ _ h, Below.heap_setCell _ _ _ _ h, Below.heap_setCell _ _ _ _ h, Below.heap_setCell _ _ _ _ h, Below.heap_setCell _ _ _ _ h, Below.heap_setCell _ _ _ _ h, Below.heap_setCell _ _ _ _ h, Below.heap_setCell _ _ _ _ h]
theorem set13_below {B : Nat} {a w : World} (h : Below B a w) {g k : Nat} (hg : B ≤ g) (c0 c1 c2 c3 c4 c5 c6 c7 c8 c9 c10 c11 c12 : Value) : Below B a (((((((((((((w.setCell ⟨g, k, none⟩ c0).setCell ⟨g, k + 1, none⟩ c1).setCell ⟨g, k + 2, none⟩ c2).setCell ⟨g, k + 3, none⟩ c3).setCell ⟨g, k + 4, none⟩ c4).setCell ⟨g, k + 5, none⟩ c5).setCell ⟨g, k + 6, none⟩ c6).setCell ⟨g, k + 7, none⟩ c7).setCell ⟨g, k + 8, none⟩ c8).setCell ⟨g, k + 9, none⟩ c9).setCell ⟨g, k + 10, none⟩ c10).setCell ⟨g, k + 11, none⟩ c11).setCell ⟨g, k + 12, none⟩ c12) :=
  ((((((((((((h.setCell (p := ⟨g, k, none⟩) hg _).setCell (p := ⟨g, k + 1, none⟩) hg _).setCell (p := ⟨g, k + 2, none⟩) hg _).setCell (p := ⟨g, k + 3, none⟩) hg _).setCell (p := ⟨g, k + 4, none⟩) hg _).setCell (p := ⟨g, k + 5, none⟩) hg _).setCell (p := ⟨g, k + 6, none⟩) hg _).setCell (p := ⟨g, k + 7, none⟩) hg _).setCell (p := ⟨g, k + 8, none⟩) hg _).setCell (p := ⟨g, k + 9, none⟩) hg _).setCell (p := ⟨g, k + 10, none⟩) hg _).setCell (p := ⟨g, k + 11, none⟩) hg _).setCell (p := ⟨g, k + 12, none⟩) hg _

/-- What toEditS leaves. -/
def TosEPost (l : List Ed) (w : World) (e : Ending) (w' : World) : Prop :=
  ∃ cs F, e = .returned (.slice (some ⟨w.heap.size, 0, none⟩) l.length l.length) ∧ w'.ownsRow w.heap.size 33 13 (.slice (some ⟨w.heap.size, 0, none⟩) l.length l.length) l.length cs ∧
    OwnAllE w' (w.heap.size + 1) l cs F ∧ F.Nodup ∧ Below w.heap.size w w' ∧ w.heap.size < w'.heap.size

/-- One round of toEditS. -/
theorem tose_step {w wr w1 : World} {l : List Ed} {k : Nat} {cs : List Value} {F F1 : List Nat} {c0 c1 c2 c3 c4 c5 c6 c7 c8 c9 c10 c11 c12 : Value} (hk : k < l.length) (hA : OwnAllE wr (w.heap.size + 1) (l.take k) cs F) (hN : F.Nodup)
    (hF : Filled wr w.heap.size 33 cs ((l.length - k) * 13)) (hB : Below w.heap.size w wr) (h1 : OwnEd w1 wr.heap.size l[k] (.agg #[c0, c1, c2, c3, c4, c5, c6, c7, c8, c9, c10, c11, c12]) F1) (hN1 : F1.Nodup) (hB1 : Below wr.heap.size wr w1) :
    OwnAllE (((((((((((((w1.setCell ⟨w.heap.size, k * 13, none⟩ c0).setCell ⟨w.heap.size, k * 13 + 1, none⟩ c1).setCell ⟨w.heap.size, k * 13 + 2, none⟩ c2).setCell ⟨w.heap.size, k * 13 + 3, none⟩ c3).setCell ⟨w.heap.size, k * 13 + 4, none⟩ c4).setCell ⟨w.heap.size, k * 13 + 5, none⟩ c5).setCell ⟨w.heap.size, k * 13 + 6, none⟩ c6).setCell ⟨w.heap.size, k * 13 + 7, none⟩ c7).setCell ⟨w.heap.size, k * 13 + 8, none⟩ c8).setCell ⟨w.heap.size, k * 13 + 9, none⟩ c9).setCell ⟨w.heap.size, k * 13 + 10, none⟩ c10).setCell ⟨w.heap.size, k * 13 + 11, none⟩ c11).setCell ⟨w.heap.size, k * 13 + 12, none⟩ c12) (w.heap.size + 1) (l.take (k + 1)) (cs ++ [c0, c1, c2, c3, c4, c5, c6, c7, c8, c9, c10, c11, c12]) (F ++ F1) ∧ (F ++ F1).Nodup ∧
    Filled (((((((((((((w1.setCell ⟨w.heap.size, k * 13, none⟩ c0).setCell ⟨w.heap.size, k * 13 + 1, none⟩ c1).setCell ⟨w.heap.size, k * 13 + 2, none⟩ c2).setCell ⟨w.heap.size, k * 13 + 3, none⟩ c3).setCell ⟨w.heap.size, k * 13 + 4, none⟩ c4).setCell ⟨w.heap.size, k * 13 + 5, none⟩ c5).setCell ⟨w.heap.size, k * 13 + 6, none⟩ c6).setCell ⟨w.heap.size, k * 13 + 7, none⟩ c7).setCell ⟨w.heap.size, k * 13 + 8, none⟩ c8).setCell ⟨w.heap.size, k * 13 + 9, none⟩ c9).setCell ⟨w.heap.size, k * 13 + 10, none⟩ c10).setCell ⟨w.heap.size, k * 13 + 11, none⟩ c11).setCell ⟨w.heap.size, k * 13 + 12, none⟩ c12) w.heap.size 33 (cs ++ [c0, c1, c2, c3, c4, c5, c6, c7, c8, c9, c10, c11, c12]) ((l.length - (k + 1)) * 13) ∧
    Below w.heap.size w (((((((((((((w1.setCell ⟨w.heap.size, k * 13, none⟩ c0).setCell ⟨w.heap.size, k * 13 + 1, none⟩ c1).setCell ⟨w.heap.size, k * 13 + 2, none⟩ c2).setCell ⟨w.heap.size, k * 13 + 3, none⟩ c3).setCell ⟨w.heap.size, k * 13 + 4, none⟩ c4).setCell ⟨w.heap.size, k * 13 + 5, none⟩ c5).setCell ⟨w.heap.size, k * 13 + 6, none⟩ c6).setCell ⟨w.heap.size, k * 13 + 7, none⟩ c7).setCell ⟨w.heap.size, k * 13 + 8, none⟩ c8).setCell ⟨w.heap.size, k * 13 + 9, none⟩ c9).setCell ⟨w.heap.size, k * 13 + 10, none⟩ c10).setCell ⟨w.heap.size, k * 13 + 11, none⟩ c11).setCell ⟨w.heap.size, k * 13 + 12, none⟩ c12) := by
  have hlt := hF.lt
  have hlen := hA.len
  have e : (l.take k).length = k := by simp; omega
  rw [e] at hlen
  have hlF := hA.lt
  have hlF1 := OwnEd.blocks h1
  have hA1 : OwnAllE w1 (w.heap.size + 1) (l.take k) cs F := hA.move (Nat.le_refl _) fun g hg => hB1.block g (hlF g hg).2
  have h1' : OwnEd w1 (w.heap.size + 1) l[k] (.agg #[c0, c1, c2, c3, c4, c5, c6, c7, c8, c9, c10, c11, c12]) F1 := OwnEd.move (by omega) (fun _ _ => rfl) h1
  have hs := OwnAllE.snoc hA1 h1'
  rw [← List.take_succ_eq_append_getElem hk] at hs
  have hF1 : Filled w1 w.heap.size 33 cs ((l.length - (k + 1)) * 13 + 13) := by
    rw [show (l.length - (k + 1)) * 13 + 13 = (l.length - k) * 13 by omega]
    exact hF.block (hB1.block _ hlt)
  refine ⟨hs.move (Nat.le_refl _) fun g hg => set13_other (by have := hs.lt g hg; omega), ?_, hF1.set13 c0 c1 c2 c3 c4 c5 c6 c7 c8 c9 c10 c11 c12 hlen.symm, set13_below (hB.trans (hB1.mono hB.size)) (Nat.le_refl _) _ _ _ _ _ _ _ _ _ _ _ _ _⟩
  rw [List.nodup_append]
  refine ⟨hN, hN1, fun a ha b hb => ?_⟩
  have := (hlF a ha).2
  have := (hlF1 b hb).1
  omega

set_option maxRecDepth 100000 in
set_option maxHeartbeats 4000000 in
theorem toEds_any (v : Value) (l : List Ed) (w : World) (h : IsEds w v l) (hl : l.length + Ed.szs l ≤ 1048576) :
    Calls Tryd.prog 15 #[v] w (TosEPost l w) := by
  obtain ⟨a, cap, rfl, h3, h4, h6⟩ := h
  have H6 := Lib.hid h6
  clear h6
  have hl' : l.length ≤ 1048576 := by omega
  have hmk := make_edits l.length hl'
  go_enter Tryd.func15, Tryd.ntmps15
  go_wp2_with fail
  go_loopw [4] (fun i wr => ∃ (k : Nat) (cs : List Value) (F : List Nat), k ≤ l.length ∧ i = .int .i64 k ∧ Hid (OwnAllE wr (w.heap.size + 1) (l.take k) cs F) ∧ Hid F.Nodup ∧ Hid (Filled wr w.heap.size 33 cs ((l.length - k) * 13)) ∧ Hid (Below w.heap.size w wr)) (fun i _ => l.length - (intOf i).toNat)
  case atStart => exact ⟨0, [], [], Nat.zero_le _, rfl, by show OwnAllE _ _ _ _ _; simp [OwnAllE], List.nodup_nil, Filled.made _ _ _ _, below_alloc _ _⟩
  case round =>
    obtain ⟨k, cs, F, hk, rfl, HA, HN, HF, HB⟩ := hrel
    by_cases hlt : k < l.length
    · obtain ⟨b, off, rfl, c0, c1, c2, c3, c4, c5, c6, c7, c8, c9, c10, c11, c12, g0, g1, g2, g3, g4, g5, g6, g7, g8, g9, g10, g11, g12, g13⟩ := IsEds.at H6.out hlt
      have HK := Lib.hid (Keeps.of_below HB.out)
      have k0 := HK.out _ _ _ g0
      have k1 := HK.out _ _ _ g1
      have k2 := HK.out _ _ _ g2
      have k3 := HK.out _ _ _ g3
      have k4 := HK.out _ _ _ g4
      have k5 := HK.out _ _ _ g5
      have k6 := HK.out _ _ _ g6
      have k7 := HK.out _ _ _ g7
      have k8 := HK.out _ _ _ g8
      have k9 := HK.out _ _ _ g9
      have k10 := HK.out _ _ _ g10
      have k11 := HK.out _ _ _ g11
      have k12 := HK.out _ _ _ g12
      have K13 := Lib.hid (g13.keep HK.out)
      clear g0 g1 g2 g3 g4 g5 g6 g7 g8 g9 g10 g11 g12 g13
      go_wp2_with fail
      refine (toEd_any l[k] _ _ K13.out (by have := edsz_mem hlt; omega)).mono ?_
      rintro e w1 ⟨v1, F1, rfl, h1, hN1, hB1⟩
      obtain ⟨p0, m0, p1, n1, m1, p2, n2, m2, p3, n3, m3, q1, i1, j1, q2, i2, j2, q3, i3, j3, rfl, _, _, _, _, _, _, _⟩ := h1.is
      have HS := Lib.hid (tose_step hlt HA.out HN.out HF.out HB.out h1 hN1 hB1)
      have HF1 := Lib.hid (HF.out.block (hB1.block _ HF.out.lt))
      have hcl := HA.out.len
      have e : (l.take k).length = k := by simp; omega
      rw [e] at hcl
      obtain ⟨x0, y0⟩ := HF1.out.cell (show 0 < (l.length - k) * 13 by omega)
      obtain ⟨x1, y1⟩ := HF1.out.cell (show 1 < (l.length - k) * 13 by omega)
      obtain ⟨x2, y2⟩ := HF1.out.cell (show 2 < (l.length - k) * 13 by omega)
      obtain ⟨x3, y3⟩ := HF1.out.cell (show 3 < (l.length - k) * 13 by omega)
      obtain ⟨x4, y4⟩ := HF1.out.cell (show 4 < (l.length - k) * 13 by omega)
      obtain ⟨x5, y5⟩ := HF1.out.cell (show 5 < (l.length - k) * 13 by omega)
      obtain ⟨x6, y6⟩ := HF1.out.cell (show 6 < (l.length - k) * 13 by omega)
      obtain ⟨x7, y7⟩ := HF1.out.cell (show 7 < (l.length - k) * 13 by omega)
      obtain ⟨x8, y8⟩ := HF1.out.cell (show 8 < (l.length - k) * 13 by omega)
      obtain ⟨x9, y9⟩ := HF1.out.cell (show 9 < (l.length - k) * 13 by omega)
      obtain ⟨x10, y10⟩ := HF1.out.cell (show 10 < (l.length - k) * 13 by omega)
      obtain ⟨x11, y11⟩ := HF1.out.cell (show 11 < (l.length - k) * 13 by omega)
      obtain ⟨x12, y12⟩ := HF1.out.cell (show 12 < (l.length - k) * 13 by omega)
      rw [hcl] at y0 y1 y2 y3 y4 y5 y6 y7 y8 y9 y10 y11 y12
      rw [Nat.add_zero] at y0
      have f0 := HF1.out.frozen (k * 13)
      have f1 := HF1.out.frozen (k * 13 + 1)
      have f2 := HF1.out.frozen (k * 13 + 2)
      have f3 := HF1.out.frozen (k * 13 + 3)
      have f4 := HF1.out.frozen (k * 13 + 4)
      have f5 := HF1.out.frozen (k * 13 + 5)
      have f6 := HF1.out.frozen (k * 13 + 6)
      have f7 := HF1.out.frozen (k * 13 + 7)
      have f8 := HF1.out.frozen (k * 13 + 8)
      have f9 := HF1.out.frozen (k * 13 + 9)
      have f10 := HF1.out.frozen (k * 13 + 10)
      have f11 := HF1.out.frozen (k * 13 + 11)
      have f12 := HF1.out.frozen (k * 13 + 12)
      have hz := HF1.out.lt
      clear h1 hN1 hB1 hcl e k0 k1 k2 k3 k4 k5 k6 k7 k8 k9 k10 k11 k12
      go_wp2_with fail
      go_roundw
      case rel => exact ⟨k + 1, _, _, hlt, by go_num, HS.out.1, HS.out.2.1, HS.out.2.2.1, HS.out.2.2.2⟩
      case measure => simp [intOf]; omega
    · obtain rfl : k = l.length := by omega
      go_wp2_with fail
      go_ret
      have hA := HA.out
      have hF := HF.out
      rw [List.take_length] at hA
      rw [Nat.sub_self, Nat.zero_mul] at hF
      exact ⟨cs, F, rfl, hF.own hA.len (Nat.le_refl _) (by unfold maxLen; omega), hA, HN.out, HB.out, hF.lt⟩
end Go.Proofs.YtfdhmkmeffgkgaaDoor
