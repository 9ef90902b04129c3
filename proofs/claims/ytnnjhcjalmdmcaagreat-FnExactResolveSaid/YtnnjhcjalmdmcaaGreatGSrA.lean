/- Walks: spec.l03Copy of what has no Items, spec.l05Ill, spec.l05Resolve but for words and what has parts. · Walks: spec.l05Resolve, of what has no parts, and to or from what may be there. -/
import Derived.Test.YtnnjhcjalmdmcaaGreatGRrA
import Derived.Test.YtnnjhcjalmdmcaaGreatGFourP
import Derived.Test.YtnnjhcjalmdmcaaGreatGWordsW
import Derived.Deep.DeepCutAuto
import Derived.Deep.RegionHeld3
namespace Go.Proofs.YtnnjhcjalmdmcaaGreat
open Go.RowKit

/-- spec.l05Resolve's contract at right shapes of so many levels together. -/
def SrAt (n : Nat) : Prop := ∀ (d1 d2 : Nat) (wt rt : Sh) (u : Va) (vw vr v : Value) (w : World), d1 + d2 ≤ n → d1 ≤ 5 → d2 ≤ 5 → partOk d1 wt = true → partOk d2 rt = true → IsSh w wt vw → IsSh w rt vr → fitB wt u = true → IsVa w u v →
  Calls Tryz.prog 38 #[vw, vr, v] w (RdPost (rdB n wt rt u) w)

theorem ill5_any (c : Int) (w : World) : Calls Tryz.prog 37 #[.int .i64 c] w (RdPost (zva, c) w) := by
  go_enter Tryz.func37, Tryz.ntmps37
  go_wp2_with fail
  refine bodyPost_ret (v := .agg #[.int .i64 0, .int .i64 0, .string ⟨#[]⟩, .slice none 0 0, .int .i64 c]) (by simp [results, Tryz.results37, go_sem]) rfl ?_
  exact rd_at (r := (zva, c)) (below_alloc _ _) (own_zva _ _) List.nodup_nil

set_option maxRecDepth 100000 in
set_option maxHeartbeats 1000000 in
theorem copy_leaf (u : Va) (v : Value) (w : World) (h : IsVa w u v) (h0 : u.it.length = 0) : Calls Tryz.prog 71 #[v] w (ToVPost (.mk u.kd u.nn u.tx []) w) := by
  have HI : Hid (InI64' u.kd ∧ InI64' u.nn ∧ u.tx.size ≤ 9223372036854775807) := by cases u with | mk k n t it => exact fields_in h
  obtain ⟨p, m, rfl⟩ := h.agg
  rw [h0]
  clear h
  obtain ⟨k, hk⟩ : ∃ k, u.kd = k := ⟨_, rfl⟩
  obtain ⟨n, hn⟩ : ∃ n, u.nn = n := ⟨_, rfl⟩
  obtain ⟨t, ht⟩ : ∃ t, u.tx = t := ⟨_, rfl⟩
  rw [hk, hn, ht] at HI ⊢
  clear hk hn ht h0
  have HN := three_new w (.cells #[.int .i64 k, .int .i64 n, .string t, .slice p 0 m] 29) (.cells #[.int .i64 0, .int .i64 0, .string ⟨#[]⟩, .slice none 0 0] 29) (.cells #[.int .i64 k, .int .i64 n, .string t, .slice none 0 0] 29)
  obtain ⟨W, hW⟩ : ∃ W, W = ((w.alloc (.cells #[.int .i64 k, .int .i64 n, .string t, .slice p 0 m] 29)).alloc (.cells #[.int .i64 0, .int .i64 0, .string ⟨#[]⟩, .slice none 0 0] 29)).alloc (.cells #[.int .i64 k, .int .i64 n, .string t, .slice none 0 0] 29) := ⟨_, rfl⟩
  have hbw : Below w.heap.size w W := by rw [hW]; exact ((below_alloc w _).alloc (by simp) _).alloc (by simp; omega) _
  rw [← hW] at HN
  have N1 := Lib.hid HN.1
  have N2 := Lib.hid HN.2.1
  have N3 := Lib.hid HN.2.2
  have BW := Lib.hid hbw
  have HW := Lib.hid hW
  clear HN hbw hW
  go_enter Tryz.func71, Tryz.ntmps71
  go_wp2_with fail
  rw [← HW.out]
  go_loopw [4] (fun i wr => i = .int .i64 0 ∧ Hid (wr = W)) (fun _ _ => 0)
  case atStart => exact ⟨rfl, rfl⟩
  case round =>
    obtain ⟨rfl, HE⟩ := hrel
    obtain rfl := HE.out
    obtain ⟨x0, x1, x2, x3, _, _, _, _, xz⟩ := blk4 N1.out
    obtain ⟨r0, r1, r2, r3, _, _, _, _, rz⟩ := blk4 N2.out
    obtain ⟨y0, y1, y2, y3, _, _, _, _, yz⟩ := blk4 N3.out
    go_wp2_with fail
    refine bodyPost_ret (v := .agg #[.int .i64 k, .int .i64 n, .string t, .slice none 0 0]) (by simp [results, Tryz.results71, go_sem, r0, r1, r2, r3]) rfl ?_
    exact va_end BW.out (by omega) (own_leaf HI.out.1 HI.out.2.1 HI.out.2.2) (by simp) List.nodup_nil

set_option maxRecDepth 100000 in
set_option maxHeartbeats 1000000 in
theorem sr_other (n : Nat) (w : World) (wt rt : Sh) (u : Va) (vw vr v : Value) (hw : IsSh w wt vw) (hr : IsSh w rt vr) (hv : IsVa w u v) (hne : ¬ wt.kd = 5) (hne2 : ¬ rt.kd = 5) (hne3 : ¬ wt.kd = rt.kd) :
    Calls Tryz.prog 38 #[vw, vr, v] w (RdPost (rdB (n + 1) wt rt u) w) := by
  rw [rd_other hne hne2 hne3]
  obtain ⟨p1, n1, m1, p2, n2, m2, p3, n3, m3, rfl⟩ := hw.agg
  obtain ⟨q1, i1, j1, q2, i2, j2, q3, i3, j3, rfl⟩ := hr.agg
  obtain ⟨p, m, rfl⟩ := hv.agg
  obtain ⟨k, hk⟩ : ∃ k, k = wt.kd := ⟨_, rfl⟩
  obtain ⟨k', hk'⟩ : ∃ k, k = rt.kd := ⟨_, rfl⟩
  rw [← hk] at hne hne3 ⊢
  rw [← hk'] at hne2 hne3 ⊢
  obtain ⟨W, hW, hbw, hz, HN1, HN2, HN3, HN4, HN5⟩ := five_new w (.cells #[.int .i64 k, .slice p1 n1 m1, .slice p2 n2 m2, .slice p3 n3 m3] 26) (.cells #[.int .i64 k', .slice q1 i1 j1, .slice q2 i2 j2, .slice q3 i3 j3] 26) (.cells #[.int .i64 u.kd, .int .i64 u.nn, .string u.tx, .slice p u.it.length m] 29) (.cells #[.int .i64 0, .int .i64 0, .string ⟨#[]⟩, .slice none 0 0, .int .i64 0] 33) (.cells #[.int .i64 k', .int .i64 0, .string ⟨#[]⟩, .slice none 0 0] 29)
  obtain ⟨x0, x1, x2, x3, _, _, _, _, xz⟩ := blk4 HN1
  obtain ⟨y0, y1, y2, y3, _, _, _, _, yz⟩ := blk4 HN2
  have N4 := Lib.hid HN4
  have HZ := Lib.hid hz
  have BW := Lib.hid hbw
  have HW := Lib.hid hW
  rw [hW] at x0 x1 x2 x3 y0 y1 y2 y3
  clear HN1 HN2 HN3 HN4 HN5 hz hbw hW hw hr hv hk hk'
  go_enter Tryz.func38, Tryz.ntmps38
  go_wp2_with fail
  rw [← HW.out]
  refine (ill5_any 10 W).mono ?_
  rintro e w1 ⟨c0, c1, c2, c3, F, rfl, ho1, hn1, hb1⟩
  obtain ⟨r3, z3, rfl, rfl, rfl, rfl⟩ := (OwnVa.is _ _ _ ho1).cells
  have HO := Lib.hid ho1
  have HNd := Lib.hid hn1
  have B1 := Lib.hid hb1
  obtain ⟨r0, r1, r2, rr3, r4, _, _, _, _, _, rz⟩ := blk5 (blk_below N4.out hb1 (by have := HZ.out; omega))
  obtain ⟨X, hX⟩ : ∃ X, X = zva := ⟨_, rfl⟩
  simp only [show zva = X from hX.symm] at HO ⊢
  have HXZ : Hid (zva = X) := hX.symm
  clear hb1 ho1 hn1 x0 x1 x2 x3 xz y0 y1 y2 y3 yz hX
  go_wp2_with fail
  refine bodyPost_ret (v := .agg #[.int .i64 X.kd, .int .i64 X.nn, .string X.tx, .slice r3 X.it.length z3, .int .i64 10]) (by simp [results, Tryz.results38, go_sem, r0, r1, r2, rr3, r4]) rfl ?_
  rw [HXZ.out]
  exact rd_of_va BW.out B1.out (by omega) (by have := HZ.out; omega) HO.out HNd.out 10

end Go.Proofs.YtnnjhcjalmdmcaaGreat
namespace Go.Proofs.YtnnjhcjalmdmcaaGreat
open Go.RowKit

set_option maxRecDepth 100000 in
set_option maxHeartbeats 1000000 in
theorem sr_plain1 (n : Nat) (w : World) (wt rt : Sh) (u : Va) (vw vr v : Value) (hw : IsSh w wt vw) (hr : IsSh w rt vr) (hv : IsVa w u v) (hk : wt.kd = 1) (hk2 : rt.kd = 1) (h0 : u.it.length = 0) :
    Calls Tryz.prog 38 #[vw, vr, v] w (RdPost (rdB (n + 1) wt rt u) w) := by
  rw [rd_plain (hk.trans hk2.symm) (by omega)]
  have HVv := Lib.hid hv
  obtain ⟨p1, n1, m1, p2, n2, m2, p3, n3, m3, rfl⟩ := hw.agg
  obtain ⟨q1, i1, j1, q2, i2, j2, q3, i3, j3, rfl⟩ := hr.agg
  obtain ⟨p, m, rfl⟩ := hv.agg
  rw [hk, hk2]
  obtain ⟨W, hW, hbw, hz, HN1, HN2, HN3, HN4, HN5⟩ := five_new w (.cells #[.int .i64 1, .slice p1 n1 m1, .slice p2 n2 m2, .slice p3 n3 m3] 26) (.cells #[.int .i64 1, .slice q1 i1 j1, .slice q2 i2 j2, .slice q3 i3 j3] 26) (.cells #[.int .i64 u.kd, .int .i64 u.nn, .string u.tx, .slice p u.it.length m] 29) (.cells #[.int .i64 0, .int .i64 0, .string ⟨#[]⟩, .slice none 0 0, .int .i64 0] 33) (.cells #[.int .i64 1, .int .i64 0, .string ⟨#[]⟩, .slice none 0 0] 29)
  have N4 := Lib.hid HN4
  have HZ := Lib.hid hz
  have BW := Lib.hid hbw
  have HW := Lib.hid hW
  have H0 := Lib.hid h0
  obtain ⟨x, hx⟩ : ∃ x, x = Va.mk u.kd u.nn u.tx [] := ⟨_, rfl⟩
  have HX := Lib.hid hx
  rw [← hx]
  clear HN1 HN2 HN3 HN4 HN5 hz hbw hW hw hr hv hk hk2 h0 hx
  go_enter Tryz.func38, Tryz.ntmps38
  go_wp2_with fail
  rw [← HW.out]
  refine (copy_leaf u _ W (IsVa.keep (Keeps.of_below BW.out) _ _ HVv.out) H0.out).mono ?_
  rw [← HX.out]
  rintro e w1 ⟨c0, c1, c2, c3, F, rfl, ho1, hn1, hb1⟩
  obtain ⟨r3, z3, rfl, rfl, rfl, rfl⟩ := (OwnVa.is _ _ _ ho1).cells
  have HO := Lib.hid ho1
  have HNd := Lib.hid hn1
  have B1 := Lib.hid hb1
  obtain ⟨y0, y1, y2, y3, y4, _, _, _, _, _, yz⟩ := blk5 (blk_below N4.out hb1 (by have := HZ.out; omega))
  clear hb1 ho1 hn1
  go_wp2_with fail
  refine bodyPost_ret (v := .agg #[.int .i64 x.kd, .int .i64 x.nn, .string x.tx, .slice r3 x.it.length z3, .int .i64 0]) (by simp [results, Tryz.results38, go_sem, y0, y1, y2, y3, y4]) rfl ?_
  exact rd_of_va BW.out B1.out (by omega) (by have := HZ.out; omega) HO.out HNd.out 0

set_option maxRecDepth 100000 in
set_option maxHeartbeats 1000000 in
theorem sr_plain2 (n : Nat) (w : World) (wt rt : Sh) (u : Va) (vw vr v : Value) (hw : IsSh w wt vw) (hr : IsSh w rt vr) (hv : IsVa w u v) (hk : wt.kd = 2) (hk2 : rt.kd = 2) (h0 : u.it.length = 0) :
    Calls Tryz.prog 38 #[vw, vr, v] w (RdPost (rdB (n + 1) wt rt u) w) := by
  rw [rd_plain (hk.trans hk2.symm) (by omega)]
  have HVv := Lib.hid hv
  obtain ⟨p1, n1, m1, p2, n2, m2, p3, n3, m3, rfl⟩ := hw.agg
  obtain ⟨q1, i1, j1, q2, i2, j2, q3, i3, j3, rfl⟩ := hr.agg
  obtain ⟨p, m, rfl⟩ := hv.agg
  rw [hk, hk2]
  obtain ⟨W, hW, hbw, hz, HN1, HN2, HN3, HN4, HN5⟩ := five_new w (.cells #[.int .i64 2, .slice p1 n1 m1, .slice p2 n2 m2, .slice p3 n3 m3] 26) (.cells #[.int .i64 2, .slice q1 i1 j1, .slice q2 i2 j2, .slice q3 i3 j3] 26) (.cells #[.int .i64 u.kd, .int .i64 u.nn, .string u.tx, .slice p u.it.length m] 29) (.cells #[.int .i64 0, .int .i64 0, .string ⟨#[]⟩, .slice none 0 0, .int .i64 0] 33) (.cells #[.int .i64 2, .int .i64 0, .string ⟨#[]⟩, .slice none 0 0] 29)
  have N4 := Lib.hid HN4
  have HZ := Lib.hid hz
  have BW := Lib.hid hbw
  have HW := Lib.hid hW
  have H0 := Lib.hid h0
  obtain ⟨x, hx⟩ : ∃ x, x = Va.mk u.kd u.nn u.tx [] := ⟨_, rfl⟩
  have HX := Lib.hid hx
  rw [← hx]
  clear HN1 HN2 HN3 HN4 HN5 hz hbw hW hw hr hv hk hk2 h0 hx
  go_enter Tryz.func38, Tryz.ntmps38
  go_wp2_with fail
  rw [← HW.out]
  refine (copy_leaf u _ W (IsVa.keep (Keeps.of_below BW.out) _ _ HVv.out) H0.out).mono ?_
  rw [← HX.out]
  rintro e w1 ⟨c0, c1, c2, c3, F, rfl, ho1, hn1, hb1⟩
  obtain ⟨r3, z3, rfl, rfl, rfl, rfl⟩ := (OwnVa.is _ _ _ ho1).cells
  have HO := Lib.hid ho1
  have HNd := Lib.hid hn1
  have B1 := Lib.hid hb1
  obtain ⟨y0, y1, y2, y3, y4, _, _, _, _, _, yz⟩ := blk5 (blk_below N4.out hb1 (by have := HZ.out; omega))
  clear hb1 ho1 hn1
  go_wp2_with fail
  refine bodyPost_ret (v := .agg #[.int .i64 x.kd, .int .i64 x.nn, .string x.tx, .slice r3 x.it.length z3, .int .i64 0]) (by simp [results, Tryz.results38, go_sem, y0, y1, y2, y3, y4]) rfl ?_
  exact rd_of_va BW.out B1.out (by omega) (by have := HZ.out; omega) HO.out HNd.out 0

set_option maxRecDepth 100000 in
set_option maxHeartbeats 1000000 in
theorem sr_plain3 (n : Nat) (w : World) (wt rt : Sh) (u : Va) (vw vr v : Value) (hw : IsSh w wt vw) (hr : IsSh w rt vr) (hv : IsVa w u v) (hk : wt.kd = 3) (hk2 : rt.kd = 3) (h0 : u.it.length = 0) :
    Calls Tryz.prog 38 #[vw, vr, v] w (RdPost (rdB (n + 1) wt rt u) w) := by
  rw [rd_plain (hk.trans hk2.symm) (by omega)]
  have HVv := Lib.hid hv
  obtain ⟨p1, n1, m1, p2, n2, m2, p3, n3, m3, rfl⟩ := hw.agg
  obtain ⟨q1, i1, j1, q2, i2, j2, q3, i3, j3, rfl⟩ := hr.agg
  obtain ⟨p, m, rfl⟩ := hv.agg
  rw [hk, hk2]
  obtain ⟨W, hW, hbw, hz, HN1, HN2, HN3, HN4, HN5⟩ := five_new w (.cells #[.int .i64 3, .slice p1 n1 m1, .slice p2 n2 m2, .slice p3 n3 m3] 26) (.cells #[.int .i64 3, .slice q1 i1 j1, .slice q2 i2 j2, .slice q3 i3 j3] 26) (.cells #[.int .i64 u.kd, .int .i64 u.nn, .string u.tx, .slice p u.it.length m] 29) (.cells #[.int .i64 0, .int .i64 0, .string ⟨#[]⟩, .slice none 0 0, .int .i64 0] 33) (.cells #[.int .i64 3, .int .i64 0, .string ⟨#[]⟩, .slice none 0 0] 29)
  have N4 := Lib.hid HN4
  have HZ := Lib.hid hz
  have BW := Lib.hid hbw
  have HW := Lib.hid hW
  have H0 := Lib.hid h0
  obtain ⟨x, hx⟩ : ∃ x, x = Va.mk u.kd u.nn u.tx [] := ⟨_, rfl⟩
  have HX := Lib.hid hx
  rw [← hx]
  clear HN1 HN2 HN3 HN4 HN5 hz hbw hW hw hr hv hk hk2 h0 hx
  go_enter Tryz.func38, Tryz.ntmps38
  go_wp2_with fail
  rw [← HW.out]
  refine (copy_leaf u _ W (IsVa.keep (Keeps.of_below BW.out) _ _ HVv.out) H0.out).mono ?_
  rw [← HX.out]
  rintro e w1 ⟨c0, c1, c2, c3, F, rfl, ho1, hn1, hb1⟩
  obtain ⟨r3, z3, rfl, rfl, rfl, rfl⟩ := (OwnVa.is _ _ _ ho1).cells
  have HO := Lib.hid ho1
  have HNd := Lib.hid hn1
  have B1 := Lib.hid hb1
  obtain ⟨y0, y1, y2, y3, y4, _, _, _, _, _, yz⟩ := blk5 (blk_below N4.out hb1 (by have := HZ.out; omega))
  clear hb1 ho1 hn1
  go_wp2_with fail
  refine bodyPost_ret (v := .agg #[.int .i64 x.kd, .int .i64 x.nn, .string x.tx, .slice r3 x.it.length z3, .int .i64 0]) (by simp [results, Tryz.results38, go_sem, y0, y1, y2, y3, y4]) rfl ?_
  exact rd_of_va BW.out B1.out (by omega) (by have := HZ.out; omega) HO.out HNd.out 0

set_option maxRecDepth 100000 in
set_option maxHeartbeats 1000000 in
theorem sr_pick (n : Nat) (w : World) (wt rt : Sh) (kn : List ByteArray) (u : Va) (vw v : Value) (q1 q2 q3 : Option Addr) (i2 i3 j1 j2 j3 : Nat) (hw : IsSh w wt vw) (hs : IsStrs w (.slice q1 kn.length j1) kn) (hv : IsVa w u v) (hk : wt.kd = 4) (hk2 : rt.kd = 4) (hkn : rt.sy = kn) (h0 : u.it.length = 0) :
    Calls Tryz.prog 38 #[vw, .agg #[.int .i64 4, .slice q1 kn.length j1, .slice q2 i2 j2, .slice q3 i3 j3], v] w (RdPost (rdB (n + 1) wt rt u) w) := by
  rw [rd_pick hk hk2, hkn]
  have HVv := Lib.hid hv
  have HSv := Lib.hid hs
  obtain ⟨p1, n1, m1, p2, n2, m2, p3, n3, m3, rfl⟩ := hw.agg
  obtain ⟨p, m, rfl⟩ := hv.agg
  rw [hk]
  obtain ⟨W, hW, hbw, hz, HN1, HN2, HN3, HN4, HN5⟩ := five_new w (.cells #[.int .i64 4, .slice p1 n1 m1, .slice p2 n2 m2, .slice p3 n3 m3] 26) (.cells #[.int .i64 4, .slice q1 kn.length j1, .slice q2 i2 j2, .slice q3 i3 j3] 26) (.cells #[.int .i64 u.kd, .int .i64 u.nn, .string u.tx, .slice p u.it.length m] 29) (.cells #[.int .i64 0, .int .i64 0, .string ⟨#[]⟩, .slice none 0 0, .int .i64 0] 33) (.cells #[.int .i64 4, .int .i64 0, .string ⟨#[]⟩, .slice none 0 0] 29)
  have N1 := Lib.hid HN1
  have N3 := Lib.hid HN3
  have N4 := Lib.hid HN4
  have HZ := Lib.hid hz
  have BW := Lib.hid hbw
  have HW := Lib.hid hW
  have H0 := Lib.hid h0
  obtain ⟨P, hP⟩ : ∃ P, posOf kn u.tx = P := ⟨_, rfl⟩
  have HP := Lib.hid hP
  obtain ⟨R, hR⟩ : ∃ R, pickR kn u = R := ⟨_, rfl⟩
  have HR := Lib.hid hR
  rw [hR]
  clear HN1 HN2 HN3 HN4 HN5 hz hbw hW hw hs hv hk hk2 hkn h0 hP hR
  go_enter Tryz.func38, Tryz.ntmps38
  go_wp2_with fail
  rw [← HW.out]
  refine (at_is _ kn u.tx P HP.out W (HSv.out.keep (Keeps.of_below BW.out))).mono ?_
  rintro e w1 ⟨rfl, rfl⟩
  obtain ⟨x0, x1, x2, x3, _, _, _, _, xz⟩ := blk4 N1.out
  obtain ⟨y0, y1, y2, y3, _, _, _, _, yz⟩ := blk4 N3.out
  by_cases hp : P < 0
  · have HRe : Hid ((zva, 8) = R) := by show _ = _; rw [← HR.out]; unfold pickR hasB; rw [HP.out, if_neg (by simpa using hp)]
    go_wp2_with fail
    refine (ill5_any 8 W).mono ?_
    rintro e w1 ⟨c0, c1, c2, c3, F, rfl, ho1, hn1, hb1⟩
    obtain ⟨r3, z3, rfl, rfl, rfl, rfl⟩ := (OwnVa.is _ _ _ ho1).cells
    have HO := Lib.hid ho1
    have HNd := Lib.hid hn1
    have B1 := Lib.hid hb1
    obtain ⟨r0, r1, r2, rr3, r4, _, _, _, _, _, rz⟩ := blk5 (blk_below N4.out hb1 (by have := HZ.out; omega))
    obtain ⟨X, hX⟩ : ∃ X, X = zva := ⟨_, rfl⟩
    simp only [show zva = X from hX.symm] at HO HRe ⊢
    clear hb1 ho1 hn1 x0 x1 x2 x3 xz y0 y1 y2 y3 yz hX
    go_wp2_with fail
    refine bodyPost_ret (v := .agg #[.int .i64 X.kd, .int .i64 X.nn, .string X.tx, .slice r3 X.it.length z3, .int .i64 8]) (by simp [results, Tryz.results38, go_sem, r0, r1, r2, rr3, r4]) rfl ?_
    rw [← HRe.out]
    exact rd_of_va BW.out B1.out (by omega) (by have := HZ.out; omega) HO.out HNd.out 8
  · obtain ⟨x, hx⟩ : ∃ x, x = Va.mk u.kd u.nn u.tx [] := ⟨_, rfl⟩
    have HX := Lib.hid hx
    have HRe : Hid ((x, 0) = R) := by show _ = _; rw [← HR.out, hx]; unfold pickR hasB; rw [HP.out, if_pos (by simpa using hp)]
    clear hx
    go_wp2_with fail
    refine (copy_leaf u _ W (IsVa.keep (Keeps.of_below BW.out) _ _ HVv.out) H0.out).mono ?_
    rw [← HX.out]
    rintro e w1 ⟨c0, c1, c2, c3, F, rfl, ho1, hn1, hb1⟩
    obtain ⟨r3, z3, rfl, rfl, rfl, rfl⟩ := (OwnVa.is _ _ _ ho1).cells
    have HO := Lib.hid ho1
    have HNd := Lib.hid hn1
    have B1 := Lib.hid hb1
    obtain ⟨r0, r1, r2, rr3, r4, _, _, _, _, _, rz⟩ := blk5 (blk_below N4.out hb1 (by have := HZ.out; omega))
    clear hb1 ho1 hn1 x0 x1 x2 x3 xz y0 y1 y2 y3 yz
    go_wp2_with fail
    refine bodyPost_ret (v := .agg #[.int .i64 x.kd, .int .i64 x.nn, .string x.tx, .slice r3 x.it.length z3, .int .i64 0]) (by simp [results, Tryz.results38, go_sem, r0, r1, r2, rr3, r4]) rfl ?_
    rw [← HRe.out]
    exact rd_of_va BW.out B1.out (by omega) (by have := HZ.out; omega) HO.out HNd.out 0

set_option maxRecDepth 100000 in
set_option maxHeartbeats 1000000 in
theorem sr_unwrap_no (n : Nat) (w : World) (wt rt : Sh) (u : Va) (vw vr v : Value) (hw : IsSh w wt vw) (hr : IsSh w rt vr) (hv : IsVa w u v) (hk : wt.kd = 5) (hne : ¬ rt.kd = 5) (h0 : u.it.length = 0) :
    Calls Tryz.prog 38 #[vw, vr, v] w (RdPost (rdB (n + 1) wt rt u) w) := by
  rw [rd_unwrap hk hne]
  unfold unwrapR
  rw [if_pos h0]
  obtain ⟨p1, n1, m1, p2, n2, m2, p3, n3, m3, rfl⟩ := hw.agg
  obtain ⟨q1, i1, j1, q2, i2, j2, q3, i3, j3, rfl⟩ := hr.agg
  obtain ⟨p, m, rfl⟩ := hv.agg
  rw [hk, h0]
  obtain ⟨k', hk'⟩ : ∃ k, k = rt.kd := ⟨_, rfl⟩
  rw [← hk'] at hne ⊢
  obtain ⟨W, hW, hbw, hz, HN1, HN2, HN3, HN4, HN5⟩ := five_new w (.cells #[.int .i64 5, .slice p1 n1 m1, .slice p2 n2 m2, .slice p3 n3 m3] 26) (.cells #[.int .i64 k', .slice q1 i1 j1, .slice q2 i2 j2, .slice q3 i3 j3] 26) (.cells #[.int .i64 u.kd, .int .i64 u.nn, .string u.tx, .slice p 0 m] 29) (.cells #[.int .i64 0, .int .i64 0, .string ⟨#[]⟩, .slice none 0 0, .int .i64 0] 33) (.cells #[.int .i64 k', .int .i64 0, .string ⟨#[]⟩, .slice none 0 0] 29)
  have N4 := Lib.hid HN4
  have HZ := Lib.hid hz
  have BW := Lib.hid hbw
  have HW := Lib.hid hW
  clear HN1 HN2 HN3 HN4 HN5 hz hbw hW hw hr hv hk hk' h0
  go_enter Tryz.func38, Tryz.ntmps38
  go_wp2_with fail
  rw [← HW.out]
  refine (ill5_any 6 W).mono ?_
  rintro e w1 ⟨c0, c1, c2, c3, F, rfl, ho1, hn1, hb1⟩
  obtain ⟨r3, z3, rfl, rfl, rfl, rfl⟩ := (OwnVa.is _ _ _ ho1).cells
  have HO := Lib.hid ho1
  have HNd := Lib.hid hn1
  have B1 := Lib.hid hb1
  obtain ⟨r0, r1, r2, rr3, r4, _, _, _, _, _, rz⟩ := blk5 (blk_below N4.out hb1 (by have := HZ.out; omega))
  obtain ⟨X, hX⟩ : ∃ X, X = zva := ⟨_, rfl⟩
  simp only [show zva = X from hX.symm] at HO ⊢
  have HXZ : Hid (zva = X) := hX.symm
  clear hb1 ho1 hn1 hX
  go_wp2_with fail
  refine bodyPost_ret (v := .agg #[.int .i64 X.kd, .int .i64 X.nn, .string X.tx, .slice r3 X.it.length z3, .int .i64 6]) (by simp [results, Tryz.results38, go_sem, r0, r1, r2, rr3, r4]) rfl ?_
  rw [HXZ.out]
  exact rd_of_va BW.out B1.out (by omega) (by have := HZ.out; omega) HO.out HNd.out 6

end Go.Proofs.YtnnjhcjalmdmcaaGreat
