/- Walks: spec.l05Resolve, to or from what may be there. · Walk: spec.l05Resolve, to what may be there. -/
import Derived.Test.YtnnjhcjalmdmcaaGreatGSrA
import Derived.Test.YtnnjhcjalmdmcaaGreatGRrB
import Derived.Test.YtnnjhcjalmdmcaaGreatGRrA
import Derived.Test.YtnnjhcjalmdmcaaGreatGRm4W
namespace Go.Proofs.YtnnjhcjalmdmcaaGreat
open Go.RowKit

/-- The variable of a ValOut that a region makes, with what a call told. -/
def OutAt (r : Va × Int) (u : World) (x : Value) (wc : World) : Prop :=
  ∃ (b : Nat) (k : Option Addr) (o : Nat) (F : List Nat), x = .pointer (some ⟨b, 0, none⟩) ∧ u.heap.size ≤ b ∧ wc.heap[b]? = some (.cells #[.int .i64 r.1.kd, .int .i64 r.1.nn, .string r.1.tx, .slice k r.1.it.length o, .int .i64 r.2] 33 (0, 0)) ∧
    OwnVa wc u.heap.size r.1 (.agg #[.int .i64 r.1.kd, .int .i64 r.1.nn, .string r.1.tx, .slice k r.1.it.length o]) F ∧ F.Nodup ∧ b ∉ F ∧ Below u.heap.size u wc
theorem out_cut1 {r : Va × Int} {u w3 : World} {B : Nat} {k : Option Addr} {o : Nat} {F : List Nat} (ho : OwnVa w3 B r.1 (.agg #[.int .i64 r.1.kd, .int .i64 r.1.nn, .string r.1.tx, .slice k r.1.it.length o]) F) (hn : F.Nodup) (hB : u.heap.size ≤ B) (hb : Below u.heap.size u w3) :
    OutAt r u (.pointer (some ⟨w3.heap.size, 0, none⟩)) (w3.alloc (.cells #[.int .i64 r.1.kd, .int .i64 r.1.nn, .string r.1.tx, .slice k r.1.it.length o, .int .i64 r.2] 33)) :=
  ⟨w3.heap.size, k, o, F, rfl, hb.size, Go.Deep.blk_alloc_new _ _, OwnVa.move hB _ _ _ (fun g hg => (below_alloc w3 _).block g (OwnVa.blocks _ _ _ ho g hg).2) ho, hn, fun hm => by have := OwnVa.blocks _ _ _ ho _ hm; omega, hb.alloc hb.size _⟩
/-- .. into a block that was there. -/
theorem out_put {r : Va × Int} {w3 : World} {B b : Nat} {k : Option Addr} {o : Nat} {F : List Nat} {o0 o1 o2 o3 o4 : Value} (ho : OwnVa w3 B r.1 (.agg #[.int .i64 r.1.kd, .int .i64 r.1.nn, .string r.1.tx, .slice k r.1.it.length o]) F) (h2 : b < B) (hz : w3.heap[b]? = some (.cells #[o0, o1, o2, o3, o4] 33 (0, 0))) :
    ((putQ w3 b (.int .i64 r.1.kd) (.int .i64 r.1.nn) (.string r.1.tx) (.slice k r.1.it.length o)).setCell ⟨b, 4, none⟩ (.int .i64 r.2)).heap[b]? = some (.cells #[.int .i64 r.1.kd, .int .i64 r.1.nn, .string r.1.tx, .slice k r.1.it.length o, .int .i64 r.2] 33 (0, 0)) ∧
    OwnVa ((putQ w3 b (.int .i64 r.1.kd) (.int .i64 r.1.nn) (.string r.1.tx) (.slice k r.1.it.length o)).setCell ⟨b, 4, none⟩ (.int .i64 r.2)) B r.1 (.agg #[.int .i64 r.1.kd, .int .i64 r.1.nn, .string r.1.tx, .slice k r.1.it.length o]) F ∧ b ∉ F := by
  have lt := OwnVa.blocks _ _ _ ho
  have a4 := blk_set (blk_set (blk_set (blk_set (blk_set hz 0 (.int .i64 r.1.kd)) 1 (.int .i64 r.1.nn)) 2 (.string r.1.tx)) 3 (.slice k r.1.it.length o)) 4 (.int .i64 r.2)
  refine ⟨by unfold putQ; simpa using a4, OwnVa.move (Nat.le_refl _) _ _ _ (fun g hg => ?_) ho, fun hm => by have := lt _ hm; omega⟩
  have hne : g ≠ b := by have := lt g hg; omega
  rw [Below.heap_setCell _ _ _ _ hne]
  exact putQ_other _ _ _ _ _ _ hne
theorem out_cut2 {r : Va × Int} {u w3 : World} {B b : Nat} {k : Option Addr} {o : Nat} {F : List Nat} {o0 o1 o2 o3 o4 : Value} (ho : OwnVa w3 B r.1 (.agg #[.int .i64 r.1.kd, .int .i64 r.1.nn, .string r.1.tx, .slice k r.1.it.length o]) F) (hn : F.Nodup) (hB : u.heap.size ≤ B) (hb : Below u.heap.size u w3) (h1 : u.heap.size ≤ b) (h2 : b < B) (hz : w3.heap[b]? = some (.cells #[o0, o1, o2, o3, o4] 33 (0, 0))) :
    OutAt r u (.pointer (some ⟨b, 0, none⟩)) ((putQ w3 b (.int .i64 r.1.kd) (.int .i64 r.1.nn) (.string r.1.tx) (.slice k r.1.it.length o)).setCell ⟨b, 4, none⟩ (.int .i64 r.2)) := by
  obtain ⟨h3, h4, h5⟩ := out_put ho h2 hz
  exact ⟨b, k, o, F, rfl, h1, h3, OwnVa.move hB _ _ _ (fun _ _ => rfl) h4, hn, h5, (putQ_below hb h1 _ _ _ _).setCell (p := ⟨b, 4, none⟩) h1 _⟩

set_option maxRecDepth 100000 in
set_option maxHeartbeats 1000000 in
theorem sr_unwrap_yes (n : Nat) (ih : SrAt n) (w : World) (d1 d2 : Nat) (x rt : Sh) (u : Va) (vw vr v : Value) (hd : d1 + d2 ≤ n) (h1 : d1 ≤ 5) (h2 : d2 ≤ 5) (hpw : partOk d1 x = true) (hpr : partOk d2 rt = true) (hw : IsSh w (.mk 5 [] [] [x]) vw) (hr : IsSh w rt vr) (hv : IsVa w u v) (hf : fitB (.mk 5 [] [] [x]) u = true) (hne : ¬ rt.kd = 5) (h0 : 0 < u.it.length) :
    Calls Tryz.prog 38 #[vw, vr, v] w (RdPost (rdB (n + 1) (.mk 5 [] [] [x]) rt u) w) := by
  rw [rd_unwrap rfl hne]
  unfold unwrapR
  rw [if_neg (by omega), show oneOf (.mk 5 [] [] [x]) = x from rfl]
  have hfy : fitB x (u.it.getD 0 zva) = true := (fit_maybe hf).2 _ (by rw [getD_eq h0]; exact List.getElem_mem h0)
  rw [show u.it.headD zva = u.it.getD 0 zva from by cases u.it <;> rfl]
  obtain ⟨y, hy⟩ : ∃ y, u.it.getD 0 zva = y := ⟨_, rfl⟩
  rw [hy] at hfy ⊢
  obtain ⟨r, hrr⟩ : ∃ r, rdB n x rt y = r := ⟨_, rfl⟩
  have HRR := Lib.hid hrr
  rw [hrr]
  have HFy := Lib.hid hfy
  have HRv := Lib.hid hr
  obtain ⟨p1, m1, p2, m2, p3, m3, rfl, _, _, _, s3⟩ := hw.open
  obtain ⟨_, a, aff, a1, v1, z1, a2, v2, z2, a3, v3, z3, rfl, l0, l1, l2, l3, l4, hn1, hn2⟩ := one_at s3
  obtain ⟨q1, i1, j1, q2, i2, j2, q3, i3, j3, rfl⟩ := hr.agg
  obtain ⟨p, m, rfl⟩ := hv.agg
  obtain ⟨_, g, off, q, z, rfl, k0, k1, k2, k3, k4, hm1, hm2⟩ := hv.items.atR h0
  rw [hy] at k0 k1 k2 k3 k4
  simp only [Nat.zero_mul, Nat.add_zero] at k0 k1 k2 k3
  have L4 := Lib.hid l4
  have K4 := Lib.hid k4
  obtain ⟨k', hk'⟩ : ∃ k, k = rt.kd := ⟨_, rfl⟩
  rw [← hk'] at hne HRv ⊢
  obtain ⟨W, hW, hbw, hz, HN1, HN2, HN3, HN4, HN5⟩ := five_new w (.cells #[.int .i64 5, .slice p1 0 m1, .slice p2 0 m2, .slice (some ⟨a, aff, none⟩) 1 m3] 26) (.cells #[.int .i64 k', .slice q1 i1 j1, .slice q2 i2 j2, .slice q3 i3 j3] 26) (.cells #[.int .i64 u.kd, .int .i64 u.nn, .string u.tx, .slice (some ⟨g, off, none⟩) u.it.length m] 29) (.cells #[.int .i64 0, .int .i64 0, .string ⟨#[]⟩, .slice none 0 0, .int .i64 0] 33) (.cells #[.int .i64 k', .int .i64 0, .string ⟨#[]⟩, .slice none 0 0] 29)
  have N4 := Lib.hid HN4
  have HZ := Lib.hid hz
  have BW := Lib.hid hbw
  have HW := Lib.hid hW
  obtain ⟨x0, x1, x2, x3, _, _, _, _, xz⟩ := blk4 HN1
  obtain ⟨y0, y1, y2, y3, _, _, _, _, yz⟩ := blk4 HN2
  obtain ⟨w0, w1', w2', w3', _, _, _, _, wz⟩ := blk4 HN3
  have HKp := Keeps.of_below hbw
  have gz : g < w.heap.size := World.block_lt_of_cell? w ⟨g, off, none⟩ k0
  have az : a < w.heap.size := World.block_lt_of_cell? w ⟨a, aff, none⟩ l0
  have HSK : Hid (∀ w', Below (w.heap.size + 1 + 1 + 1) W w' → (w'.cell? ⟨w.heap.size, 3, none⟩ = some (.slice (some ⟨a, aff, none⟩) 1 m3) ∧ w'.cell? ⟨a, aff, none⟩ = some (.int .i64 x.kd) ∧ w'.cell? ⟨a, aff + 1, none⟩ = some (.slice a1 v1 z1) ∧ w'.cell? ⟨a, aff + 2, none⟩ = some (.slice a2 v2 z2) ∧ w'.cell? ⟨a, aff + 3, none⟩ = some (.slice a3 v3 z3) ∧ w'.cell? ⟨w.heap.size + 1, 0, none⟩ = some (.int .i64 k') ∧ w'.cell? ⟨w.heap.size + 1, 1, none⟩ = some (.slice q1 i1 j1) ∧ w'.cell? ⟨w.heap.size + 1, 2, none⟩ = some (.slice q2 i2 j2) ∧ w'.cell? ⟨w.heap.size + 1, 3, none⟩ = some (.slice q3 i3 j3) ∧ w'.cell? ⟨w.heap.size + 1 + 1, 3, none⟩ = some (.slice (some ⟨g, off, none⟩) u.it.length m) ∧ w'.cell? ⟨g, off, none⟩ = some (.int .i64 y.kd) ∧ w'.cell? ⟨g, off + 1, none⟩ = some (.int .i64 y.nn) ∧ w'.cell? ⟨g, off + 2, none⟩ = some (.string y.tx) ∧ w'.cell? ⟨g, off + 3, none⟩ = some (.slice q y.it.length z))) := fun w' hb => by
    have k : ∀ b o c, b < w.heap.size + 1 + 1 + 1 → W.cell? ⟨b, o, none⟩ = some c → w'.cell? ⟨b, o, none⟩ = some c := fun b o c hlt hc => by rw [hb.cell (p := ⟨b, o, none⟩) hlt]; exact hc
    exact ⟨k _ _ _ (by omega) x3, k _ _ _ (by omega) (HKp _ _ _ l0), k _ _ _ (by omega) (HKp _ _ _ l1), k _ _ _ (by omega) (HKp _ _ _ l2), k _ _ _ (by omega) (HKp _ _ _ l3), k _ _ _ (by omega) y0, k _ _ _ (by omega) y1, k _ _ _ (by omega) y2, k _ _ _ (by omega) y3, k _ _ _ (by omega) w3', k _ _ _ (by omega) (HKp _ _ _ k0), k _ _ _ (by omega) (HKp _ _ _ k1), k _ _ _ (by omega) (HKp _ _ _ k2), k _ _ _ (by omega) (HKp _ _ _ k3)⟩
  have HPw := Lib.hid hpw
  have HPr := Lib.hid hpr
  have IH := Lib.hid ih
  have hq : ((u.it.length : Int) == 0) = false := by rw [beq_eq_false_iff_ne]; omega
  clear HN1 HN2 HN3 HN4 HN5 hz hbw hW hw hr hv s3 l0 l1 l2 l3 l4 k0 k1 k2 k3 k4 HKp gz az x0 x1 x2 x3 xz y0 y1 y2 y3 yz w0 w1' w2' w3' wz hpw hpr ih hk' hy hfy hrr hf
  go_enter Tryz.func38, Tryz.ntmps38
  go_upto_region 11 with fail
  rw [← HW.out]
  go_region_held3 (fun w' => w'.cell? ⟨w.heap.size, 3, none⟩ = some (.slice (some ⟨a, aff, none⟩) 1 m3) ∧ w'.cell? ⟨a, aff, none⟩ = some (.int .i64 x.kd) ∧ w'.cell? ⟨a, aff + 1, none⟩ = some (.slice a1 v1 z1) ∧ w'.cell? ⟨a, aff + 2, none⟩ = some (.slice a2 v2 z2) ∧ w'.cell? ⟨a, aff + 3, none⟩ = some (.slice a3 v3 z3) ∧ w'.cell? ⟨w.heap.size + 1, 0, none⟩ = some (.int .i64 k') ∧ w'.cell? ⟨w.heap.size + 1, 1, none⟩ = some (.slice q1 i1 j1) ∧ w'.cell? ⟨w.heap.size + 1, 2, none⟩ = some (.slice q2 i2 j2) ∧ w'.cell? ⟨w.heap.size + 1, 3, none⟩ = some (.slice q3 i3 j3) ∧ w'.cell? ⟨w.heap.size + 1 + 1, 3, none⟩ = some (.slice (some ⟨g, off, none⟩) u.it.length m) ∧ w'.cell? ⟨g, off, none⟩ = some (.int .i64 y.kd) ∧ w'.cell? ⟨g, off + 1, none⟩ = some (.int .i64 y.nn) ∧ w'.cell? ⟨g, off + 2, none⟩ = some (.string y.tx) ∧ w'.cell? ⟨g, off + 3, none⟩ = some (.slice q y.it.length z))
    (first
      | exact HSK.out _ (Below.refl _ W).drew
      | exact HSK.out _ BB1.out
      | exact HSK.out _ ((putQ_below BB1.out (Nat.le_refl _) _ _ _ _).setCell (p := ⟨w.heap.size + 1 + 1 + 1, 4, none⟩) (Nat.le_refl _) _))
    (first
      | (go_at_call 38; refine (IH.out d1 d2 x rt y _ _ _ W.drew hd h1 h2 HPw.out HPr.out (IsSh.keep (Keeps.of_below BW.out.drew) _ _ L4.out) (IsSh.keep (Keeps.of_below BW.out.drew) _ _ HRv.out) HFy.out (IsVa.keep (Keeps.of_below BW.out.drew) _ _ K4.out)).mono ?_; rw [HRR.out]; rintro e w1 ⟨d0, d1', d2', d3, F, rfl, ho1, hn1, hb1⟩; obtain ⟨r3, z4, rfl, rfl, rfl, rfl⟩ := (OwnVa.is _ _ _ ho1).cells; have HO := Lib.hid (show OwnVa w1 W.heap.size _ _ F from ho1); have HNd := Lib.hid hn1; have B1 := Lib.hid (show Below W.heap.size W w1 from (Below.refl _ W).drew.trans hb1); have BB1 := Lib.hid (B1.out.mono (show w.heap.size + 1 + 1 + 1 ≤ W.heap.size by have := HZ.out; omega)); obtain ⟨_, _, _, _, _, _, _, _, _, _, _⟩ := blk5 (blk_below (w := W) N4.out B1.out (by have := HZ.out; omega)); clear ho1 hn1 hb1)
      | fail)
  all_goals
    obtain ⟨r0, r1, r2, rr3, r4, _, _, _, _, _, rz⟩ := blk5 (blk_below (w := W) N4.out B1.out (by have := HZ.out; omega))
    go_wp2_with fail
    refine bodyPost_ret (v := .agg #[.int .i64 r.1.kd, .int .i64 r.1.nn, .string r.1.tx, .slice r3 r.1.it.length z4, .int .i64 r.2]) (by simp [results, Tryz.results38, go_sem, r0, r1, r2, rr3, r4]) rfl ?_
    exact rd_of_va BW.out B1.out (by omega) (by have := HZ.out; omega) HO.out HNd.out r.2

end Go.Proofs.YtnnjhcjalmdmcaaGreat
namespace Go.Proofs.YtnnjhcjalmdmcaaGreat
open Go.RowKit

set_option maxRecDepth 100000 in
set_option maxHeartbeats 6000000 in
theorem sr_wrap (n : Nat) (ih : SrAt n) (w : World) (d1 d2 : Nat) (wt x : Sh) (u : Va) (vw vr v : Value) (hd : d1 + d2 ≤ n) (h1 : d1 ≤ 5) (h2 : d2 ≤ 5) (hpw : partOk d1 wt = true) (hpr : partOk d2 x = true) (hw : IsSh w wt vw) (hr : IsSh w (.mk 5 [] [] [x]) vr) (hv : IsVa w u v) (hf : fitB wt u = true) (hne : ¬ wt.kd = 5) :
    Calls Tryz.prog 38 #[vw, vr, v] w (RdPost (rdB (n + 1) wt (.mk 5 [] [] [x]) u) w) := by
  rw [rd_wrap rfl hne, show oneOf (.mk 5 [] [] [x]) = x from rfl]
  obtain ⟨r, hrr⟩ : ∃ r, rdB n wt x u = r := ⟨_, rfl⟩
  have HRR := Lib.hid hrr
  rw [hrr]
  obtain ⟨R, hR⟩ : ∃ R, collR 5 [] [r] = R := ⟨_, rfl⟩
  have HR := Lib.hid hR
  rw [hR]
  have HF := Lib.hid hf
  have HWv := Lib.hid hw
  have HVv := Lib.hid hv
  obtain ⟨p1, n1, m1, p2, n2, m2, p3, n3, m3, rfl⟩ := hw.agg
  obtain ⟨q1, j1, q2, j2, q3, j3, rfl, _, _, _, s3⟩ := hr.open
  obtain ⟨_, a, aff, a1, v1, z1, a2, v2, z2, a3, v3, z3, rfl, l0, l1, l2, l3, l4, hn1, hn2⟩ := one_at s3
  obtain ⟨p, m, rfl⟩ := hv.agg
  have L4 := Lib.hid l4
  obtain ⟨k', hk'⟩ : ∃ k, k = wt.kd := ⟨_, rfl⟩
  rw [← hk'] at hne HWv ⊢
  obtain ⟨W, hW, hbw, hz, HN1, HN2, HN3, HN4, HN5⟩ := five_new w (.cells #[.int .i64 k', .slice p1 n1 m1, .slice p2 n2 m2, .slice p3 n3 m3] 26) (.cells #[.int .i64 5, .slice q1 0 j1, .slice q2 0 j2, .slice (some ⟨a, aff, none⟩) 1 j3] 26) (.cells #[.int .i64 u.kd, .int .i64 u.nn, .string u.tx, .slice p u.it.length m] 29) (.cells #[.int .i64 0, .int .i64 0, .string ⟨#[]⟩, .slice none 0 0, .int .i64 0] 33) (.cells #[.int .i64 5, .int .i64 0, .string ⟨#[]⟩, .slice none 0 0] 29)
  have N4 := Lib.hid HN4
  have N5 := Lib.hid HN5
  have HZ := Lib.hid hz
  have BW := Lib.hid hbw
  have HW := Lib.hid hW
  obtain ⟨x0, x1, x2, x3, _, _, _, _, xz⟩ := blk4 HN1
  obtain ⟨y0, y1, y2, y3, _, _, _, _, yz⟩ := blk4 HN2
  obtain ⟨w0, w1', w2', w3', _, _, _, _, wz⟩ := blk4 HN3
  have HKp := Keeps.of_below hbw
  have HSK : Hid (∀ w', Below W.heap.size W w' → (w'.cell? ⟨w.heap.size, 0, none⟩ = some (.int .i64 k') ∧ w'.cell? ⟨w.heap.size, 1, none⟩ = some (.slice p1 n1 m1) ∧ w'.cell? ⟨w.heap.size, 2, none⟩ = some (.slice p2 n2 m2) ∧ w'.cell? ⟨w.heap.size, 3, none⟩ = some (.slice p3 n3 m3) ∧ w'.cell? ⟨w.heap.size + 1, 3, none⟩ = some (.slice (some ⟨a, aff, none⟩) 1 j3) ∧ w'.cell? ⟨a, aff, none⟩ = some (.int .i64 x.kd) ∧ w'.cell? ⟨a, aff + 1, none⟩ = some (.slice a1 v1 z1) ∧ w'.cell? ⟨a, aff + 2, none⟩ = some (.slice a2 v2 z2) ∧ w'.cell? ⟨a, aff + 3, none⟩ = some (.slice a3 v3 z3) ∧ w'.cell? ⟨w.heap.size + 1 + 1, 0, none⟩ = some (.int .i64 u.kd) ∧ w'.cell? ⟨w.heap.size + 1 + 1, 1, none⟩ = some (.int .i64 u.nn) ∧ w'.cell? ⟨w.heap.size + 1 + 1, 2, none⟩ = some (.string u.tx) ∧ w'.cell? ⟨w.heap.size + 1 + 1, 3, none⟩ = some (.slice p u.it.length m))) := fun w' hb => by
    have k := Keeps.of_below hb
    exact ⟨k _ _ _ x0, k _ _ _ x1, k _ _ _ x2, k _ _ _ x3, k _ _ _ y3, k _ _ _ (HKp _ _ _ l0), k _ _ _ (HKp _ _ _ l1), k _ _ _ (HKp _ _ _ l2), k _ _ _ (HKp _ _ _ l3), k _ _ _ w0, k _ _ _ w1', k _ _ _ w2', k _ _ _ w3'⟩
  have hkb : (k' != 5) = true := by simpa using hne
  have HPw := Lib.hid hpw
  have HPr := Lib.hid hpr
  have IH := Lib.hid ih
  clear HN1 HN2 HN3 HN4 HN5 hz hbw hW hw hr hv s3 l0 l1 l2 l3 l4 HKp x0 x1 x2 x3 xz y0 y1 y2 y3 yz w0 w1' w2' w3' wz hpw hpr ih hk' hrr hf hR
  go_enter Tryz.func38, Tryz.ntmps38
  go_upto_region 3 with fail
  rw [← HW.out]
  go_cut [8] (fun x' wc => Hid (OutAt r W x' wc))
  case first =>
    go_region_held3 (fun w' => w'.cell? ⟨w.heap.size, 0, none⟩ = some (.int .i64 k') ∧ w'.cell? ⟨w.heap.size, 1, none⟩ = some (.slice p1 n1 m1) ∧ w'.cell? ⟨w.heap.size, 2, none⟩ = some (.slice p2 n2 m2) ∧ w'.cell? ⟨w.heap.size, 3, none⟩ = some (.slice p3 n3 m3) ∧ w'.cell? ⟨w.heap.size + 1, 3, none⟩ = some (.slice (some ⟨a, aff, none⟩) 1 j3) ∧ w'.cell? ⟨a, aff, none⟩ = some (.int .i64 x.kd) ∧ w'.cell? ⟨a, aff + 1, none⟩ = some (.slice a1 v1 z1) ∧ w'.cell? ⟨a, aff + 2, none⟩ = some (.slice a2 v2 z2) ∧ w'.cell? ⟨a, aff + 3, none⟩ = some (.slice a3 v3 z3) ∧ w'.cell? ⟨w.heap.size + 1 + 1, 0, none⟩ = some (.int .i64 u.kd) ∧ w'.cell? ⟨w.heap.size + 1 + 1, 1, none⟩ = some (.int .i64 u.nn) ∧ w'.cell? ⟨w.heap.size + 1 + 1, 2, none⟩ = some (.string u.tx) ∧ w'.cell? ⟨w.heap.size + 1 + 1, 3, none⟩ = some (.slice p u.it.length m))
      (first
        | exact HSK.out _ (Below.refl _ W).drew
        | exact HSK.out _ ((Below.refl _ W).alloc (Nat.le_refl _) _).drew
        | exact HSK.out _ BB1.out
        | exact HSK.out _ (BB1.out.alloc BB1.out.size _)
        | exact HSK.out _ ((putQ_below BB1.out (Nat.le_refl _) _ _ _ _).setCell (p := ⟨W.heap.size, 4, none⟩) (Nat.le_refl _) _))
      (first
        | (go_at_call 38; refine (IH.out d1 d2 wt x u _ _ _ W.drew hd h1 h2 HPw.out HPr.out (IsSh.keep (Keeps.of_below BW.out.drew) _ _ HWv.out) (IsSh.keep (Keeps.of_below BW.out.drew) _ _ L4.out) HF.out (IsVa.keep (Keeps.of_below BW.out.drew) _ _ HVv.out)).mono ?_; rw [HRR.out]; rintro e w1 ⟨d0, d1', d2', d3, F, rfl, ho1, hn1, hb1⟩; obtain ⟨r3, z4, rfl, rfl, rfl, rfl⟩ := (OwnVa.is _ _ _ ho1).cells; have HO := Lib.hid (show OwnVa w1 W.heap.size _ _ F from ho1); have HNd := Lib.hid hn1; have BB1 := Lib.hid (show Below W.heap.size W w1 from (Below.refl _ W).drew.trans hb1); clear ho1 hn1 hb1)
        | (go_at_call 38; refine (IH.out d1 d2 wt x u _ _ _ (W.alloc (.cells #[.int .i64 0, .int .i64 0, .string ⟨#[]⟩, .slice none 0 0, .int .i64 0] 33)).drew hd h1 h2 HPw.out HPr.out (IsSh.keep (Keeps.of_below (BW.out.alloc BW.out.size _).drew) _ _ HWv.out) (IsSh.keep (Keeps.of_below (BW.out.alloc BW.out.size _).drew) _ _ L4.out) HF.out (IsVa.keep (Keeps.of_below (BW.out.alloc BW.out.size _).drew) _ _ HVv.out)).mono ?_; rw [HRR.out]; rintro e w1 ⟨d0, d1', d2', d3, F, rfl, ho1, hn1, hb1⟩; obtain ⟨r3, z4, rfl, rfl, rfl, rfl⟩ := (OwnVa.is _ _ _ ho1).cells; have HO := Lib.hid (show OwnVa w1 (W.alloc (.cells #[.int .i64 0, .int .i64 0, .string ⟨#[]⟩, .slice none 0 0, .int .i64 0] 33)).heap.size _ _ F from ho1); have HNd := Lib.hid hn1; have BB1 := Lib.hid (show Below W.heap.size W w1 from (below_alloc W _).drew.trans (hb1.mono (show W.heap.size ≤ (W.alloc (.cells #[.int .i64 0, .int .i64 0, .string ⟨#[]⟩, .slice none 0 0, .int .i64 0] 33)).heap.size by simp))); have NB1 := Lib.hid (blk_below (w := (W.alloc (.cells #[.int .i64 0, .int .i64 0, .string ⟨#[]⟩, .slice none 0 0, .int .i64 0] 33)).drew) (Go.Deep.blk_alloc_new W (.cells #[.int .i64 0, .int .i64 0, .string ⟨#[]⟩, .slice none 0 0, .int .i64 0] 33)) hb1 (show W.heap.size < (W.alloc (.cells #[.int .i64 0, .int .i64 0, .string ⟨#[]⟩, .slice none 0 0, .int .i64 0] 33)).heap.size by simp)); obtain ⟨_, _, _, _, _, _, _, _, _, _, _⟩ := blk5 NB1.out; clear ho1 hn1 hb1)
        | fail)
    all_goals
      go_wp2_with fail
      go_meet
      first
        | (have g3 := NB1; exact out_cut2 HO.out HNd.out (show W.heap.size ≤ (W.alloc (.cells #[.int .i64 0, .int .i64 0, .string ⟨#[]⟩, .slice none 0 0, .int .i64 0] 33)).heap.size by simp) BB1.out (Nat.le_refl _) (show W.heap.size < (W.alloc (.cells #[.int .i64 0, .int .i64 0, .string ⟨#[]⟩, .slice none 0 0, .int .i64 0] 33)).heap.size by simp) g3.out)
        | exact out_cut1 HO.out HNd.out (Nat.le_refl _) BB1.out
  case rest =>
    rename World => w1
    obtain ⟨b0, k0, o0, F, rfl, hb0, hP, ho, hn, hbF, hb1⟩ := hcut.out
    have HO := Lib.hid ho
    have HNd := Lib.hid hn
    have B1 := Lib.hid hb1
    have hz := HZ.out
    have lt := OwnVa.blocks _ _ _ ho
    have P4 := blk_below N4.out hb1 (by omega)
    have P5 := blk_below N5.out hb1 (by omega)
    have Y := Lib.hid hP
    clear hcut ho hn hb1
    by_cases hc : r.2 = 0
    · have HRe : Hid ((.mk 5 0 ⟨#[]⟩ [r.1], 0) = R) := by show _ = _; rw [← HR.out]; unfold collR; rw [if_pos hc]; rfl
      rw [hc] at hP
      have hv4 := blk_set P5 3 (.slice (some ⟨w1.heap.size, 0, none⟩) 1 1)
      have hr3 := blk_other P4 (show w.heap.size + 1 + 1 + 1 ≠ w.heap.size + 1 + 1 + 1 + 1 by omega) (i := 3) (.slice (some ⟨w1.heap.size, 0, none⟩) 1 1)
      obtain ⟨w2, hw2⟩ : ∃ w2, w2 = w1.setCell ⟨w.heap.size + 1 + 1 + 1 + 1, 3, none⟩ (.slice (some ⟨w1.heap.size, 0, none⟩) 1 1) := ⟨_, rfl⟩
      have hz2 : w2.heap.size = w1.heap.size := by rw [hw2, size_set]
      have hB2 : Below w.heap.size w w2 := by rw [hw2]; exact (BW.out.trans (B1.out.mono BW.out.size)).setCell (p := ⟨w.heap.size + 1 + 1 + 1 + 1, 3, none⟩) (by show _ ≤ w.heap.size + 1 + 1 + 1 + 1; omega) _
      have ho2 : OwnVa w2 w.heap.size r.1 (.agg #[.int .i64 r.1.kd, .int .i64 r.1.nn, .string r.1.tx, .slice k0 r.1.it.length o0]) F := OwnVa.move (by omega) _ _ _ (fun g hg => by rw [hw2]; exact Below.heap_setCell _ _ _ _ (show g ≠ w.heap.size + 1 + 1 + 1 + 1 by have := lt g hg; omega)) HO.out
      obtain ⟨ho3, hn3⟩ := own_one (k := 5) (by unfold InI64'; omega) ho2 HNd.out hB2.size
      rw [← hw2] at hv4 hr3
      rw [hz2] at ho3 hn3
      obtain ⟨c0, c1, c2, c3, c4, _, _, _, _, _, cz⟩ := blk5 hP
      obtain ⟨u0, u1, u2, u3, _, _, _, _, uz⟩ := blk4 P5
      obtain ⟨r0, r1, r2, rr3, r4, _, _, _, _, _, rz⟩ := blk5 hr3
      obtain ⟨s0, s1, s2, s3, _, _, _, _, sz⟩ := blk4 hv4
      have HO3 := Lib.hid ho3
      have HN3 := Lib.hid hn3
      have HB3 := Lib.hid (hB2.alloc hB2.size (.cells #[.int .i64 r.1.kd, .int .i64 r.1.nn, .string r.1.tx, .slice k0 r.1.it.length o0] 29))
      have HFn : Hid (∀ g ∈ w1.heap.size :: F, g ≠ w.heap.size + 1 + 1 + 1) := fun g hg => by
        rcases List.mem_cons.1 hg with rfl | hg
        · have := B1.out.size; omega
        · have := lt g hg; omega
      have HW2 := Lib.hid hw2
      clear hv4 hr3 ho2 ho3 hn3 hB2 lt hz2 P4 P5 hP hc
      go_upto_region 7 with fail
      rw [← HW2.out]
      clear hw2 c0 c1 c2 c3 c4 cz u0 u1 u2 u3 uz
      go_wp2_with fail
      refine bodyPost_ret (v := .agg #[.int .i64 5, .int .i64 0, .string ⟨#[]⟩, .slice (some ⟨w1.heap.size, 0, none⟩) 1 1, .int .i64 0]) (by simp [results, Tryz.results38, go_sem, r0, r1, r2, rr3, r4, rz]) rfl ?_
      rw [← HRe.out]
      have h' := rd_end (r := (.mk 5 0 ⟨#[]⟩ [r.1], 0)) (b := w.heap.size + 1 + 1 + 1) HB3.out (by omega) HO3.out HFn.out HN3.out
      rw [putR_alloc rz] at h'
      exact h'
    · have HRe : Hid (r = R) := by show _ = _; rw [← HR.out]; unfold collR; rw [if_neg hc]
      have hcb : (r.2 != 0) = true := by simpa using hc
      obtain ⟨c0, c1, c2, c3, c4, _, _, _, _, _, cz⟩ := blk5 Y.out
      obtain ⟨r0, r1, r2, rr3, r4, _, _, _, _, _, rz⟩ := blk5 P4
      have HFn : Hid (∀ g ∈ F, g ≠ w.heap.size + 1 + 1 + 1) := fun g hg => by have := lt g hg; omega
      clear P4 P5 lt hP
      go_wp2_with fail
      refine bodyPost_ret (v := .agg #[.int .i64 r.1.kd, .int .i64 r.1.nn, .string r.1.tx, .slice k0 r.1.it.length o0, .int .i64 r.2]) (by simp [results, Tryz.results38, go_sem, r0, r1, r2, rr3, r4]) rfl ?_
      rw [← HRe.out]
      exact rd_end (r := r) (BW.out.trans (B1.out.mono BW.out.size)) (by omega) (OwnVa.move (show w.heap.size ≤ W.heap.size by omega) _ _ _ (fun _ _ => rfl) HO.out) HFn.out HNd.out
end Go.Proofs.YtnnjhcjalmdmcaaGreat
