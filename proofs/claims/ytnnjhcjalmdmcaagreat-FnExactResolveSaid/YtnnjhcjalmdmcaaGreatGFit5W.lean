/- Walks: the method fits of recKind. -/
import Derived.Test.YtnnjhcjalmdmcaaGreatGFitC
namespace Go.Proofs.YtnnjhcjalmdmcaaGreat
open Go.RowKit

theorem zip_no {l : List Sh} {m : List Va} {k : Nat} (h : k < l.length) (h' : k < m.length) (hn : fitB l[k] m[k] = false) : ((l.zip m).all fun q => fitB q.1 q.2) = false := by
  rw [List.all_eq_false]
  exact ⟨(l[k], m[k]), List.mem_iff_getElem.2 ⟨k, by simp; omega, by simp⟩, by simp [hn]⟩
theorem zip_step {l : List Sh} {m : List Va} {k : Nat} (h : k < l.length) (h' : k < m.length) (hk : ((l.zip m).take k).all (fun q => fitB q.1 q.2) = true) (hn : fitB l[k] m[k] = true) : ((l.zip m).take (k + 1)).all (fun q => fitB q.1 q.2) = true := by
  rw [List.take_succ_eq_append_getElem (by simp; omega), List.all_append, hk]
  simp [hn]
set_option maxRecDepth 100000 in
set_option maxHeartbeats 1000000 in
theorem recFits_any (d : Nat) (ih : FrAt d) (c0 : Value) (k n : Int) (t : ByteArray) (p1 p2 p3 p : Option Addr) (n1 n2 m1 m2 m3 m : Nat) (su : List Sh) (it : List Va) (w : World) (hp : su.all (partOk d) = true) (hs : IsShs w (.slice p3 su.length m3) su) (hv : IsVas w (.slice p it.length m) it) :
    Calls Tryz.prog 147 #[.agg #[c0, .slice p1 n1 m1, .slice p2 n2 m2, .slice p3 su.length m3], .agg #[.int .i64 k, .int .i64 n, .string t, .slice p it.length m]] w fun e w' => e = .returned (.bool ((decide (n = 0) && decide (t.size = 0)) && fitZip su it)) ∧ Below w.heap.size w w' := by
  have HB := Lib.hid (fun o1 o2 => (below_alloc w o1).alloc (by simp) o2)
  have hX := two_new w (.cells #[c0, .slice p1 n1 m1, .slice p2 n2 m2, .slice p3 su.length m3] 121) (.cells #[.int .i64 k, .int .i64 n, .string t, .slice p it.length m] 29)
  have HV := Lib.hid hv
  have HS := Lib.hid hs
  have IH := Lib.hid ih
  have HP := Lib.hid hp
  obtain ⟨W, hW⟩ : ∃ W, W = ((w.alloc (.cells #[c0, .slice p1 n1 m1, .slice p2 n2 m2, .slice p3 su.length m3] 121)).alloc (.cells #[.int .i64 k, .int .i64 n, .string t, .slice p it.length m] 29)) := ⟨_, rfl⟩
  have HBW : Hid (Below w.heap.size w W) := by show Below _ _ _; rw [hW]; exact HB.out _ _
  rw [← hW] at hX
  have S1 := Lib.hid hX.1
  have S2 := Lib.hid hX.2
  have HW := Lib.hid hW
  clear hs hv ih hp hX hW
  cases hb : (decide (n = 0) && decide (t.size = 0))
  · have H := Lib.hid hb
    clear hb
    go_enter Tryz.func147, Tryz.ntmps147
    go_wp2_with fail
    rw [← HW.out]
    obtain ⟨b0, b1, b2, b3, _, _, _, _, bz⟩ := blk4 S2.out
    refine (isItems_is _ _ _ _ _ _ _ H.out _).mono ?_
    rintro e w1 ⟨rfl, hb1⟩
    have HB1 := Lib.hid (HBW.out.trans (hb1.mono HBW.out.size))
    clear hb1
    go_wp2_with fail
    go_ret
    exact ⟨rfl, HB1.out⟩
  · have H := Lib.hid hb
    clear hb
    by_cases hl : it.length = su.length
    · have HL := Lib.hid hl
      have hl' : ((it.length : Int) != (su.length : Int)) = false := by simp [hl]
      clear hl
      go_enter Tryz.func147, Tryz.ntmps147
      go_wp2_with fail
      rw [← HW.out]
      obtain ⟨b0, b1, b2, b3, _, _, _, _, bz⟩ := blk4 S2.out
      obtain ⟨a0, a1, a2, a3, _, _, _, _, az⟩ := blk4 S1.out
      refine (isItems_is _ _ _ _ _ _ _ H.out _).mono ?_
      rintro e w1 ⟨rfl, hb1⟩
      have HB1 := Lib.hid (HBW.out.trans (hb1.mono HBW.out.size))
      have T1 := Lib.hid (blk_below S1.out hb1 az)
      have T2 := Lib.hid (blk_below S2.out hb1 bz)
      clear hb1 a0 a1 a2 a3 b0 b1 b2 b3 az bz
      obtain ⟨a0, a1, a2, a3, _, _, _, _, az⟩ := blk4 T1.out
      obtain ⟨b0, b1, b2, b3, _, _, _, _, bz⟩ := blk4 T2.out
      go_wp2_with fail
      clear a0 a1 a2 a3 b0 b1 b2 b3 az bz
      obtain ⟨a3', cap3, e3, _, hc3, g3⟩ := HS.out
      simp only [Value.slice.injEq] at e3
      obtain ⟨rfl, _, rfl⟩ := e3
      obtain ⟨aa, capa, ea, ha3, hca, ga⟩ := HV.out
      simp only [Value.slice.injEq] at ea
      obtain ⟨rfl, _, rfl⟩ := ea
      have H3 := Lib.hid g3
      have HA := Lib.hid ga
      clear g3 ga
      go_loopw [22] (fun i wr => ∃ j : Nat, j ≤ su.length ∧ i = .int .i64 j ∧ Hid (((su.zip it).take j).all (fun q => fitB q.1 q.2) = true) ∧ Hid (Below w.heap.size w wr) ∧ Hid (wr.heap[w.heap.size + 1]? = some (.cells #[.int .i64 k, .int .i64 n, .string t, .slice p it.length m] 29 (0, 0)))) (fun i _ => su.length - (intOf i).toNat)
      case atStart => exact ⟨0, Nat.zero_le _, rfl, rfl, HB1.out, T2.out⟩
      case round =>
        obtain ⟨j, hj, rfl, HJ, HBr, HXr⟩ := hrel
        by_cases hlt : j < su.length
        · have hlt2 : j < it.length := by have := HL.out; omega
          obtain ⟨b, off, rfl, c0, c1, c2, c3, g0, g1, g2, g3, g4⟩ := IsShs.at H3.out hlt
          obtain ⟨b', off', rfl, d0, d1, d2, d3, e0, e1, e2, e3, e4⟩ := IsVas.at HA.out hlt2
          have HKp := Lib.hid (Keeps.of_below HBr.out)
          have k0 := HKp.out _ _ _ g0
          have k1 := HKp.out _ _ _ g1
          have k2 := HKp.out _ _ _ g2
          have k3 := HKp.out _ _ _ g3
          have j0 := HKp.out _ _ _ e0
          have j1 := HKp.out _ _ _ e1
          have j2 := HKp.out _ _ _ e2
          have j3 := HKp.out _ _ _ e3
          have K4 := Lib.hid (IsSh.keep HKp.out _ _ g4)
          have J4 := Lib.hid (IsVa.keep HKp.out _ _ e4)
          obtain ⟨q1, i1, y1, q2, i2, y2, q3, i3, y3, rfl, rfl, rfl, rfl⟩ := g4.cells
          obtain ⟨r3, z3, rfl, rfl, rfl, rfl⟩ := e4.cells
          obtain ⟨b0, b1, b2, b3, _, _, _, _, bz⟩ := blk4 HXr.out
          clear g0 g1 g2 g3 g4 e0 e1 e2 e3 e4
          obtain ⟨W1, hW1⟩ : ∃ W1, W1 = wr.alloc (.cells #[.int .i64 su[j].kd, .slice q1 i1 y1, .slice q2 i2 y2, .slice q3 i3 y3] 26) := ⟨_, rfl⟩
          have hba : Below wr.heap.size wr W1 := by rw [hW1]; exact below_alloc _ _
          have hnw : W1.heap[wr.heap.size]? = some (.cells #[.int .i64 su[j].kd, .slice q1 i1 y1, .slice q2 i2 y2, .slice q3 i3 y3] 26 (0, 0)) := by rw [hW1]; exact Go.Deep.blk_alloc_new _ _
          have HW1 := Lib.hid hW1
          have HN1 := Lib.hid (HBr.out.trans (hba.mono HBr.out.size))
          have hX1 := blk_below HXr.out hba bz
          have HX1 := Lib.hid hX1
          have K5 := Lib.hid (IsSh.keep (Keeps.of_below hba) _ _ K4.out)
          have J5 := Lib.hid (IsVa.keep (Keeps.of_below hba) _ _ J4.out)
          have v0 := Keeps.of_below hba _ _ _ j0
          have v1 := Keeps.of_below hba _ _ _ j1
          have v2 := Keeps.of_below hba _ _ _ j2
          have v3 := Keeps.of_below hba _ _ _ j3
          obtain ⟨n0, n1', n2', n3, _, _, _, _, nz⟩ := blk4 hnw
          obtain ⟨x0, x1, x2, x3, _, _, _, _, xz⟩ := blk4 hX1
          have vz : b' < W1.heap.size := World.block_lt_of_cell? W1 ⟨b', off' + j * 4, none⟩ v0
          clear hW1 hba hnw hX1
          have HPj := Lib.hid (List.all_eq_true.1 HP.out su[j] (List.getElem_mem hlt))
          cases hp : fitB su[j] it[j]
          · have HE := Lib.hid hp
            have HF := Lib.hid (zip_no hlt hlt2 hp)
            clear hp
            go_wp2_with fail
            rw [← HW1.out]
            go_still_tail 6, (by kernel_rfl)
            change wpList _ _ _ _ _ W1.drew
            go_wp2_with fail
            refine (IH.out su[j] it[j] _ _ _ HPj.out (IsSh.keep keeps_drew _ _ K5.out) (IsVa.keep keeps_drew _ _ J5.out)).mono ?_
            rintro e w3 ⟨rfl, hb3⟩
            rw [HE.out]
            have HX3 := Lib.hid (blk_below (w := W1.drew) HX1.out hb3 (by show _ < W1.heap.size; omega))
            have HB3 := Lib.hid (HN1.out.drew.trans (hb3.mono HN1.out.size))
            clear hb3
            go_wp2_with fail
            go_ret
            exact ⟨ret_bool (by rw [show fitZip su it = false from (fitZip_all su it HL.out.symm).trans HF.out]; rfl), HB3.out⟩
          · have HE := Lib.hid hp
            have HF := Lib.hid (zip_step hlt hlt2 HJ.out hp)
            clear hp
            go_wp2_with fail
            rw [← HW1.out]
            go_still_tail 6, (by kernel_rfl)
            change wpList _ _ _ _ _ W1.drew
            go_wp2_with fail
            refine (IH.out su[j] it[j] _ _ _ HPj.out (IsSh.keep keeps_drew _ _ K5.out) (IsVa.keep keeps_drew _ _ J5.out)).mono ?_
            rintro e w3 ⟨rfl, hb3⟩
            rw [HE.out]
            have HX3 := Lib.hid (blk_below (w := W1.drew) HX1.out hb3 (by show _ < W1.heap.size; omega))
            have HB3 := Lib.hid (HN1.out.drew.trans (hb3.mono HN1.out.size))
            clear hb3
            go_wp2_with fail
            go_roundw
            case rel => exact ⟨j + 1, hlt, by go_num, HF.out, HB3.out, HX3.out⟩
            case measure => simp [intOf]; omega
        · obtain rfl : j = su.length := by omega
          have HF : Hid (fitZip su it = true) := by
            show _ = _
            have := HJ.out
            rw [List.take_of_length_le (by rw [List.length_zip]; omega)] at this
            rw [fitZip_all su it HL.out.symm]; exact this
          go_wp2_with fail
          go_ret
          exact ⟨ret_bool (by rw [HF.out]; rfl), HBr.out⟩
    · have HR : Hid (fitZip su it = false) := fitZip_ne fun e => hl e.symm
      have hl' : ((it.length : Int) != (su.length : Int)) = true := by simp; omega
      clear hl
      go_enter Tryz.func147, Tryz.ntmps147
      go_wp2_with fail
      rw [← HW.out]
      obtain ⟨b0, b1, b2, b3, _, _, _, _, bz⟩ := blk4 S2.out
      obtain ⟨a0, a1, a2, a3, _, _, _, _, az⟩ := blk4 S1.out
      refine (isItems_is _ _ _ _ _ _ _ H.out _).mono ?_
      rintro e w1 ⟨rfl, hb1⟩
      have HB1 := Lib.hid (HBW.out.trans (hb1.mono HBW.out.size))
      have T1 := Lib.hid (blk_below S1.out hb1 az)
      have T2 := Lib.hid (blk_below S2.out hb1 bz)
      clear hb1 a0 a1 a2 a3 b0 b1 b2 b3 az bz
      obtain ⟨a0, a1, a2, a3, _, _, _, _, az⟩ := blk4 T1.out
      obtain ⟨b0, b1, b2, b3, _, _, _, _, bz⟩ := blk4 T2.out
      go_wp2_with fail
      go_ret
      exact ⟨ret_bool (by rw [HR.out]; rfl), HB1.out⟩
end Go.Proofs.YtnnjhcjalmdmcaaGreat
