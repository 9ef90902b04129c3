/- Walks: impl.recReading. -/
import Derived.Test.YtnnjhcjalmdmcaaGreatGRm2W
import Derived.Deep.RegionLaw
namespace Go.Proofs.YtnnjhcjalmdmcaaGreat
open Go.RowKit

theorem field_any (G : RG) (hM : RM G) (n : Nat) (ih : ROf G n) (X : Nat → Prop) (z w : World) (d1 d2 : Nat) (na : List ByteArray) (su : List Sh) (rt : Sh) (name : ByteArray) (vw vr : Value) (hd : d1 + d2 ≤ n) (h1 : d1 + 1 ≤ 5) (h2 : d2 ≤ 5) (hpw : partOk (d1 + 1) (.mk 7 [] na su) = true) (hps : su.all (partOk d1) = true) (hl : su.length = na.length) (hpr : partOk d2 rt = true) (hw : IsSh z (.mk 7 [] na su) vw) (hr : IsSh z rt vr) (he : EnvR X z w) :
    Calls Tryz.prog 97 #[vw, .string name, vr] w (MadeG G X (fun u => fitB (.mk 7 [] na su) u = true) (fieldR (rdB n) (.mk 7 [] na su) name rt) (fieldW (wnB n) (.mk 7 [] na su) name rt) w) := by
  by_cases h : posOf na name < 0
  · exact field_neg G hM n X z w d2 na su rt name vw vr h2 hpr hw hr he h
  · obtain ⟨j, hj⟩ := Int.eq_ofNat_of_zero_le (show 0 ≤ posOf na name by omega)
    exact field_pos G hM n ih X z w d1 d2 na su rt name vw vr hd h1 h2 hpw hps hl hpr hw hr he j hj

theorem row_capsR {w : World} {B T sz n cap : Nat} {aa : Option Addr} {xs : List Value} (h : w.ownsRow B T sz (.slice aa n cap) n xs) : n ≤ cap ∧ cap ≤ 9223372036854775807 := by
  rcases h.2 with ⟨hv, h0⟩ | ⟨g', cap', cur, hv, hb, hg, hn, hc, _⟩
  · cases hv; exact ⟨Nat.le_refl _, by decide⟩
  · cases hv
    unfold maxLen at hc
    exact ⟨hn, by omega⟩
theorem row_cellsR {w : World} {B T sz n cap : Nat} {aa : Option Addr} {xs : List Value} (h : w.ownsRow B T sz (.slice aa n cap) n xs) (h0 : 0 < n) : ∃ g, aa = some ⟨g, 0, none⟩ ∧ B ≤ g ∧ ∀ j c, xs[j]? = some c → w.cell? ⟨g, j, none⟩ = some c := by
  obtain ⟨hl, hh⟩ := h
  rcases hh with ⟨hv, hz⟩ | ⟨g, cap', cur, hv, hb, hg, hn, hc, hsz, ht⟩
  · omega
  · cases hv
    refine ⟨g, rfl, hb, fun j c hj => ?_⟩
    have hlt : j < xs.length := (List.getElem?_eq_some_iff.1 hj).1
    have e : (cur.toList.take (n * sz))[j]? = cur.toList[j]? := List.getElem?_take_of_lt (by omega)
    rw [ht, hj] at e
    simp [World.cell?, hg, ← Array.getElem?_toList, ← e]

/-- At a round's head: the readings of so many fields. -/
structure RecInv (G : RG) (X : Nat → Prop) (W wr : World) (fb : Nat) (L : List PRU) (j : Nat) (q : Option Addr) (c : Nat) (xs : List Value) : Prop where
  cell : wr.heap[fb]? = some (.cells #[.slice q j c] 113 (0, 0))
  row : wr.ownsRow W.heap.size 67 2 (.slice q j c) j xs
  rds : RdsG G (fun g => X g ∨ g = fb ∨ g ∈ blkOf (.slice q j c)) wr (L.take j) xs
  only : Only [fb] W wr
/-- One more. -/
theorem rec_step {G : RG} (hM : RM G) {X : Nat → Prop} {W wr w1 w2 : World} {fb : Nat} {L : List PRU} {j : Nat} {q q' : Option Addr} {c c' : Nat} {xs : List Value} {f1 f2 : FuncId} {g1 g2 : Array Value} (h : RecInv G X W wr fb L j q c xs) (hlt : j < L.length) (hfb : fb < W.heap.size)
    (hG : G (fun g => X g ∨ g = fb ∨ g ∈ blkOf (.slice q j c)) w1 (L[j]'hlt).1 (L[j]'hlt).2.1 (L[j]'hlt).2.2 f1 g1 f2 g2) (hb : Below wr.heap.size wr w1)
    (ho2 : w2.ownsRow W.heap.size 67 2 (.slice q' (j + 1) c') (j + 1) (xs ++ [fnv f1 g1, fnv f2 g2])) (hy2 : Only (blkOf (.slice q j c)) w1 w2) (hp2 : ∀ g ∈ blkOf (.slice q' (j + 1) c'), g ∈ blkOf (.slice q j c) ∨ w1.heap.size ≤ g) :
    RecInv G X W (w2.setCell ⟨fb, 0, none⟩ (.slice q' (j + 1) c')) fb L (j + 1) q' c' (xs ++ [fnv f1 g1, fnv f2 g2]) := by
  have lr := blkOf_own h.row
  have l2 := blkOf_own ho2
  have hfw : fb < wr.heap.size := (Array.getElem?_eq_some_iff.1 h.cell).1
  have c2 : w2.heap[fb]? = some (.cells #[.slice q j c] 113 (0, 0)) := by
    rw [hy2.block fb (Nat.lt_of_lt_of_le hfw hb.size) fun hx => by have := lr fb hx; omega, hb.block fb hfw]; exact h.cell
  have s1 : Still (fun g => X g ∨ g = fb ∨ g ∈ blkOf (.slice q j c)) wr w1 := Still.of_below hb
  have s2 : Still (fun g => X g ∨ g = fb ∨ g ∈ blkOf (.slice q j c)) w1 w2 := Still.of_only hy2 fun g hg => .inr (.inr hg)
  have s3 := s2.set (g := fb) (.inr (.inl rfl)) 0 (.slice q' (j + 1) c')
  have hy : ∀ g, (X g ∨ g = fb ∨ g ∈ blkOf (.slice q' (j + 1) c')) → (X g ∨ g = fb ∨ g ∈ blkOf (.slice q j c)) ∨ w1.heap.size ≤ g := fun g hg => by
    rcases hg with hg | hg | hg
    · exact .inl (.inl hg)
    · exact .inl (.inr (.inl hg))
    · rcases hp2 g hg with hg | hg
      · exact .inl (.inr (.inr hg))
      · exact .inr hg
  refine ⟨by have := blk_set c2 0 (.slice q' (j + 1) c'); simpa using this, own_block ho2 fun g hg => Below.heap_setCell _ _ _ _ (show g ≠ fb by have := l2 g hg; omega), ?_, ?_⟩
  · rw [List.take_succ_eq_append_getElem hlt]
    exact ((h.rds.move hM s1 fun g hg => .inl hg).move hM s3 hy).snoc (hM.move hG s3 hy)
  · refine Only.set ?_ (by simp) _ _
    refine ⟨hy2.os.trans (hb.os.trans h.only.os), hy2.tape.trans (hb.tape.trans h.only.tape), hy2.output.trans (hb.output.trans h.only.output), Nat.le_trans h.only.size (Nat.le_trans hb.size hy2.size), fun g hg hne => ?_⟩
    have hgw : g < wr.heap.size := Nat.lt_of_lt_of_le hg h.only.size
    rw [hy2.block g (Nat.lt_of_lt_of_le hgw hb.size) fun hx => by have := lr g hx; omega, hb.block g hgw, h.only.block g hg hne]

/-- The readings of all fields. -/
def recL (n : Nat) (wt : Sh) (na : List ByteArray) (su : List Sh) : List PRU := (na.zip su).map fun p => ((fun u => fitB wt u = true), fieldR (rdB n) wt p.1 p.2, fieldW (wnB n) wt p.1 p.2)
theorem recL_len {n : Nat} {wt : Sh} {na : List ByteArray} {su : List Sh} (h : su.length = na.length) : (recL n wt na su).length = na.length := by
  unfold recL; rw [List.length_map, List.length_zip]; omega
theorem recL_at {n : Nat} {wt : Sh} {na : List ByteArray} {su : List Sh} {j : Nat} (h : j < (recL n wt na su).length) (h1 : j < na.length) (h2 : j < su.length) : (recL n wt na su)[j] = ((fun u => fitB wt u = true), fieldR (rdB n) wt na[j] su[j], fieldW (wnB n) wt na[j] su[j]) := by
  simp [recL]

set_option maxRecDepth 100000 in
set_option maxHeartbeats 2000000 in
theorem rec_any (G : RG) (hM : RM G) (n : Nat) (ih : ROf G n) (X : Nat → Prop) (z w : World) (d1 d2 : Nat) (na : List ByteArray) (su : List Sh) (na2 : List ByteArray) (su2 : List Sh) (vw vr : Value) (hd : d1 + d2 ≤ n) (h1 : d1 + 1 ≤ 5) (h2 : d2 ≤ 5) (hpw : partOk (d1 + 1) (.mk 7 [] na su) = true) (hps : su.all (partOk d1) = true) (hl : su.length = na.length) (hl2 : su2.length = na2.length) (h6 : na2.length ≤ 6) (hpr : su2.all (partOk d2) = true) (hw : IsSh z (.mk 7 [] na su) vw) (hr : IsSh z (.mk 7 [] na2 su2) vr) (he : EnvR X z w) :
    Calls Tryz.prog 68 #[vw, vr] w (MadeG G X (fun u => fitB (.mk 7 [] na su) u = true) (rdB (n + 1) (.mk 7 [] na su) (.mk 7 [] na2 su2)) (wnB (n + 1) (.mk 7 [] na su) (.mk 7 [] na2 su2)) w) := by
  have HWv := Lib.hid hw
  obtain ⟨p1, m1, p2, m2, p3, m3, rfl, _⟩ := hw.open
  obtain ⟨q1, j1, q2, j2, q3, j3, rfl, _, _, s2, s3⟩ := hr.open
  obtain ⟨_, hs8, a2, cap2, e2, g2a, g2b, g2⟩ := s2
  simp only [Value.slice.injEq] at e2
  obtain ⟨rfl, _, rfl⟩ := e2
  obtain ⟨a3, cap3, e3, g3a, g3b, g3⟩ := s3
  simp only [Value.slice.injEq] at e3
  obtain ⟨rfl, _, rfl⟩ := e3
  have H2 := Lib.hid g2
  have H3 := Lib.hid g3
  have HL2 := Lib.hid hl2
  have HP2 := Lib.hid hpr
  have HLen := Lib.hid (recL_len (n := n) (wt := .mk 7 [] na su) hl2)
  have HF := Lib.hid (fun (X : Nat → Prop) (w : World) (rt : Sh) (name : ByteArray) (vr : Value) hp hr he => field_any G hM n ih X z w d1 d2 na su rt name _ vr hd h1 h2 hpw hps hl hp hw hr he)
  have HN := three_new w (.cells #[.int .i64 7, .slice p1 0 m1, .slice p2 na.length m2, .slice p3 su.length m3] 26) (.cells #[.int .i64 7, .slice q1 0 j1, .slice q2 na2.length j2, .slice q3 su2.length j3] 26) (.cells #[.nilFunc, .nilFunc] 67)
  obtain ⟨W0, hW0⟩ : ∃ W0, W0 = ((w.alloc (.cells #[.int .i64 7, .slice p1 0 m1, .slice p2 na.length m2, .slice p3 su.length m3] 26)).alloc (.cells #[.int .i64 7, .slice q1 0 j1, .slice q2 na2.length j2, .slice q3 su2.length j3] 26)).alloc (.cells #[.nilFunc, .nilFunc] 67) := ⟨_, rfl⟩
  have hb0 : Below w.heap.size w W0 := by rw [hW0]; exact ((below_alloc w _).alloc (by simp) _).alloc (by simp; omega) _
  have hz0 : W0.heap.size = w.heap.size + 1 + 1 + 1 := by rw [hW0]; simp
  rw [← hW0] at HN
  have E0 : Hid (EnvR (withX X (w.heap.size + 1 + 1)) z W0) := he.with hb0 (by omega) (by omega)
  obtain ⟨W, hW⟩ : ∃ W, W = W0.alloc (.cells #[.slice none 0 0] 113) := ⟨_, rfl⟩
  have hbW : Below W0.heap.size W0 W := by rw [hW]; exact below_alloc _ _
  have N1 := Lib.hid (blk_below HN.1 hbW (by omega))
  have N2 := Lib.hid (blk_below HN.2.1 hbW (by omega))
  have N3 := Lib.hid (blk_below HN.2.2 hbW (by omega))
  have N4 : Hid (W.heap[W0.heap.size]? = some (.cells #[.slice none 0 0] 113 (0, 0))) := by show _ = _; rw [hW]; exact Go.Deep.blk_alloc_new _ _
  have BW := Lib.hid (hb0.trans (hbW.mono hb0.size))
  have HZW : Hid (W.heap.size = W0.heap.size + 1) := by show _ = _; rw [hW]; simp
  have HW : Hid (W = (((w.alloc (.cells #[.int .i64 7, .slice p1 0 m1, .slice p2 na.length m2, .slice p3 su.length m3] 26)).alloc (.cells #[.int .i64 7, .slice q1 0 j1, .slice q2 na2.length j2, .slice q3 su2.length j3] 26)).alloc (.cells #[.nilFunc, .nilFunc] 67)).alloc (.cells #[.slice none 0 0] 113)) := by show _ = _; rw [hW, hW0]
  have HZ0 := Lib.hid hz0
  have HE := Lib.hid he
  have hI0 : RecInv G (withX X (w.heap.size + 1 + 1)) W W (w.heap.size + 1 + 1 + 1) (recL n (.mk 7 [] na su) na2 su2) 0 none 0 [] := ⟨by rw [← hz0]; exact N4.out, World.ownsRow_nil _ _ _ _, by simp [RdsG], Only.refl _ _⟩
  have HI0 := Lib.hid hI0
  clear HN hb0 hz0 hW0 hbW hW hI0 hw hr he g2 g3 hl2 hpr hps hpw hl
  go_enter Tryz.func68, Tryz.ntmps68
  go_wp2_with fail
  rw [← HW.out]
  go_loopw [11] (fun i wr => ∃ (j : Nat) (q : Option Addr) (c : Nat) (xs : List Value), j ≤ na2.length ∧ i = .int .i64 j ∧ Hid (RecInv G (withX X (w.heap.size + 1 + 1)) W wr (w.heap.size + 1 + 1 + 1) (recL n (.mk 7 [] na su) na2 su2) j q c xs)) (fun i _ => na2.length - (intOf i).toNat)
  case atStart => exact ⟨0, none, 0, [], Nat.zero_le _, rfl, HI0.out⟩
  case round =>
    obtain ⟨j, q, c, xs, hj, rfl, HI⟩ := hrel
    by_cases hlt : j < na2.length
    · have hlt2 : j < su2.length := by rw [HL2.out]; exact hlt
      have hltL : j < (recL n (.mk 7 [] na su) na2 su2).length := by rw [HLen.out]; exact hlt
      have HLt := Lib.hid hltL
      have h0 := HI.out.only
      have hzr := h0.size
      have M1 := Lib.hid (show wr.heap[w.heap.size]? = _ from (h0.block _ (by have := HZW.out; have := HZ0.out; omega) (by simp; omega)).trans N1.out)
      have M2 := Lib.hid (show wr.heap[w.heap.size + 1]? = _ from (h0.block _ (by have := HZW.out; have := HZ0.out; omega) (by simp)).trans N2.out)
      have Bw : Hid (Below w.heap.size w wr) := BW.out.trans (h0.below BW.out.size (by simp; omega))
      have HKp := Keeps.of_below (HE.out.step Bw.out).below
      obtain ⟨b2, off2, rfl, hc2⟩ := IsStrs.at H2.out hlt
      obtain ⟨b, off, rfl, d0, d1', d2', d3, k0, k1, k2, k3, k4⟩ := IsShs.at H3.out hlt2
      obtain ⟨t1, u1, y1, t2, u2, y2, t3, u3, y3, rfl, rfl, rfl, rfl⟩ := k4.cells
      have K4 := Lib.hid k4
      have e0 := HKp _ _ _ k0
      have e1 := HKp _ _ _ k1
      have e2 := HKp _ _ _ k2
      have e3 := HKp _ _ _ k3
      have hn0 := HKp _ _ _ hc2
      have bz : b < z.heap.size := World.block_lt_of_cell? z ⟨b, off + j * 4, none⟩ k0
      have zw : z.heap.size ≤ w.heap.size := HE.out.below.size
      have HPj := Lib.hid (List.all_eq_true.1 HP2.out su2[j] (List.getElem_mem hlt2))
      have EY : Hid (EnvR (fun g => withX X (w.heap.size + 1 + 1) g ∨ g = w.heap.size + 1 + 1 + 1 ∨ g ∈ blkOf (.slice q j c)) z wr) := by
        refine ⟨(HE.out.step Bw.out).below, fun g hg => ?_, fun g hg => ?_⟩
        · rcases hg with hg | rfl | hg
          · exact E0.out.lo g hg
          · omega
          · have := (blkOf_own HI.out.row g hg).1; have := HZW.out; have := HZ0.out; omega
        · rcases hg with hg | rfl | hg
          · have := E0.out.hi g hg; have := HZW.out; omega
          · have := HZW.out; have := HZ0.out; omega
          · exact (blkOf_own HI.out.row g hg).2
      obtain ⟨f0, _, fz⟩ := blk1r HI.out.cell
      clear h0 k0 k1 k2 k3 k4 hc2 HKp hltL
      obtain ⟨x0, x1, x2, x3, _, _, _, _, xz⟩ := blk4 M1.out
      obtain ⟨y0, y1', y2', y3', _, _, _, _, yz⟩ := blk4 M2.out
      go_upto_region 5 with fail
      have HFZ : Hid (w.heap.size + 1 + 1 + 1 < W.heap.size) := by show _ < _; have := HZW.out; have := HZ0.out; omega
      have HWz : Hid (W.heap.size ≤ wr.heap.size) := hzr
      have bzr : b < wr.heap.size := by omega
      clear y0 y1' y2' hn0 bz hzr zw
      go_region_law
        (first
          | (go_simp; go_at_call 97; refine (HF.out (fun g => withX X (w.heap.size + 1 + 1) g ∨ g = w.heap.size + 1 + 1 + 1 ∨ g ∈ blkOf (.slice q j c)) wr.drew su2[j] na2[j] _ HPj.out K4.out (EY.out.step (Below.refl _ wr).drew)).mono ?_; rintro e w1 ⟨f1, g1, f2, g2, rfl, hG1, hb1⟩; have HG1 := Lib.hid hG1; have B1 := Lib.hid (show Below wr.heap.size wr w1 from (Below.refl _ wr).drew.trans hb1); have BB1 := Lib.hid (B1.out.mono (show w.heap.size + 1 + 1 + 1 ≤ wr.heap.size by have := HFZ.out; have := HWz.out; omega)); obtain ⟨_, _, _⟩ := blk1r (blk_below (w := wr) HI.out.cell B1.out fz); clear hG1 hb1)
          | (refine step_rd w1 rfl _ _ rfl W.heap.size q j c xs f1 f2 g1 g2 rfl (own_block HI.out.row fun g hg => B1.out.block g (blkOf_own HI.out.row g hg).2) rfl (by omega) (Nat.le_trans HWz.out B1.out.size) ?_; intro q' c' w2 ho2 hy2 hp2; have HO2 := Lib.hid ho2; have HY2 := Lib.hid hy2; have HP2' := Lib.hid hp2; have hv2 := blk_below (w := wr) HI.out.cell B1.out fz; rw [← hy2.block _ (Array.getElem?_eq_some_iff.1 hv2).1 (fun hx => by have := blkOf_own HI.out.row _ hx; have := HFZ.out; omega)] at hv2; obtain ⟨_, _, _⟩ := blk1r hv2; have BB2 := Lib.hid (BB1.out.trans (hy2.below (by have := BB1.out.size; have := HFZ.out; have := HWz.out; omega) fun g hg => by have := blkOf_own HI.out.row g hg; have := HFZ.out; omega)); clear ho2 hy2 hp2 hv2))
      all_goals
        have HI2 := Lib.hid (rec_step hM HI.out HLt.out HFZ.out (by rw [recL_at HLt.out hlt hlt2]; exact HG1.out) B1.out HO2.out HY2.out HP2'.out)
        clear x0 x1 x2 x3 xz y3' yz e0 e1 e2 e3 bzr f0 fz
        go_wp2_with fail
        go_roundw
        case rel => exact ⟨j + 1, q', c', _, hlt, by go_num, HI2.out⟩
        case measure => simp [intOf]; omega
    · obtain rfl : j = na2.length := by omega
      have h0 := HI.out.only
      have hzr := h0.size
      have HFZ : w.heap.size + 1 + 1 + 1 < W.heap.size := by have := HZW.out; have := HZ0.out; omega
      have Bw : Hid (Below w.heap.size w wr) := BW.out.trans (h0.below BW.out.size (by simp; omega))
      have R9 := (h0.block _ (by omega) (by simp)).trans N3.out
      obtain ⟨r0, r1, _, _, rz⟩ := blk2r R9
      have hG := hM.record (G := G) (X := withX X (w.heap.size + 1 + 1)) (w := wr) (L := recL n (.mk 7 [] na su) na2 su2) (aa := q) (cc := c) (by rw [HLen.out]; exact HI.out.cell) (fun hx => by have := E0.out.hi _ hx; have := HZ0.out; omega) (by rw [HLen.out]; exact h6) (by rw [HLen.out]; exact row_capsR HI.out.row) (fun i hi => by
        rw [HLen.out] at hi
        obtain ⟨g, hga, hgB, hk⟩ := row_cellsR HI.out.row (by omega)
        have hrd := HI.out.rds
        rw [List.take_of_length_le (by rw [HLen.out]; exact Nat.le_refl _)] at hrd
        obtain ⟨f1, c1, f2, c2, k0, k1, k2⟩ := hrd.at i (by rw [HLen.out]; exact hi)
        exact ⟨g, 0, hga, fun hx => by have := E0.out.hi _ hx; have := HZ0.out; omega, f1, c1, f2, c2, by rw [Nat.zero_add]; exact hk _ _ k0, by rw [Nat.zero_add]; exact hk _ _ k1, hM.move k2 (Still.refl _ _) fun _ hg => .inl (.inl hg)⟩)
      have HGf := Lib.hid hG
      clear h0 R9 hG
      go_wp2_with fail
      refine bodyPost_ret (v := .agg #[fnv 98 #[.pointer (some ⟨w.heap.size + 1 + 1 + 1, 0, none⟩)], fnv 100 #[.pointer (some ⟨w.heap.size + 1 + 1 + 1, 0, none⟩)]]) (by simp [results, Tryz.results68, go_sem, r0, r1]) rfl ?_
      refine made_endR hM (hM.same HGf.out (fun u hu p hp => ?_) (fun u _ => ?_) ?_) Bw.out (by omega) _ _
      · unfold recL at hp
        obtain ⟨y, _, rfl⟩ := List.mem_map.1 hp
        exact hu
      · rw [rd_rec (w := .mk 7 [] na su) (r := .mk 7 [] na2 su2) rfl rfl]
        unfold recL; rw [List.map_map]; rfl
      · rw [wn_rec (w := .mk 7 [] na su) (r := .mk 7 [] na2 su2) rfl rfl]
        unfold recL; rw [List.map_map]; rfl
end Go.Proofs.YtnnjhcjalmdmcaaGreat
