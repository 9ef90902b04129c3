/- Walks: spec.l01Dec, spec.l03Text. -/
import Derived.Test.YtflpfphfoibggaaDoorValP
import Derived.Test.YtflpfphfoibggaaDoorStrsW
import Derived.Test.YtflpfphfoibggaaDoorJoinCW
namespace Go.Proofs.YtflpfphfoibggaaDoor
open Go.RowKit

theorem capV_le {d : Nat} (h : d ≤ 5) : capT d ≤ 200000 := by
  match d, h with
  | 0, _ => decide
  | 1, _ => decide
  | 2, _ => decide
  | 3, _ => decide
  | 4, _ => decide
  | 5, _ => decide

set_option maxRecDepth 100000 in
set_option maxHeartbeats 1000000 in
theorem dec_any (n : Nat) (hn : n ≤ 1000000) (w : World) :
    Calls Tryd.prog 97 #[.int .i64 n] w fun e w' => e = .returned (.string ⟨(decB n).toArray⟩) ∧ Below w.heap.size w w' := by
  by_cases h0 : n = 0
  · subst h0
    have HR : Hid ((⟨(decB 0).toArray⟩ : ByteArray) = ⟨#[48]⟩) := rfl
    rw [HR.out]
    go_enter Tryd.func97, Tryd.ntmps97
    go_wp2_with fail
    go_ret
    exact ⟨rfl, Below.refl _ _⟩
  · have HR : Hid (decB n = digsB n) := by show _ = _; unfold decB; rw [if_neg h0]
    have hne : ((n : Int) == 0) = false := by rw [beq_eq_false_iff_ne]; omega
    have hpos : (0 : Int) ≤ (n : Int) := by omega
    obtain ⟨r, hr⟩ : ∃ r : ByteArray, r = ⟨(decB n).toArray⟩ := ⟨_, rfl⟩
    have HM := Lib.hid hr
    rw [← hr]
    clear h0 hr
    go_enter Tryd.func97, Tryd.ntmps97
    go_wp2_with fail
    go_loopw [0, 4] (fun a o wr => ∃ (q : Nat) (s : ByteArray), a = .int .i64 q ∧ o = .string s ∧ Hid (digsB n = digsB q ++ s.data.toList) ∧ q + s.size ≤ n ∧ Hid (Below w.heap.size w wr)) (fun a _ _ => (intOf a).toNat)
    case atStart => exact ⟨n, ⟨#[]⟩, rfl, rfl, (List.append_nil _).symm, Nat.le_refl _, Below.refl _ _⟩
    case round =>
      obtain ⟨q, s, rfl, rfl, HD, hq, HB⟩ := hrel
      by_cases hlt : 0 < q
      · have HDn := Lib.hid (HD.out.trans (digsB_step hlt))
        have b1 : ((q : Int) == 0) = false := by rw [beq_eq_false_iff_ne]; omega
        have b2 : 0 ≤ (q : Int) % 10 := by omega
        have hcv := conv_one wr q
        have hb1 := HB.out.alloc HB.out.size (.cells #[.int .u8 (48 + (q : Int) % 10)] 5)
        have HB1 := Lib.hid hb1
        have hs1 : ¬ 9223372036854775807 < 1 + s.size := by omega
        clear hb1
        go_wp2_with fail
        go_roundw
        case rel => exact ⟨q / 10, ⟨#[dgB q]⟩ ++ s, by rw [Int.natCast_ediv]; rfl, rfl, by show _ = _; rw [HDn.out]; simp, by rw [ByteArray.size_append]; show q / 10 + (1 + s.size) ≤ n; omega, HB1.out⟩
        case measure => simp [intOf]; omega
      · obtain rfl : q = 0 := by omega
        have HE : Hid (s = r) := by
          show _ = _
          apply ByteArray.ext
          apply Array.ext'
          rw [HM.out, HR.out, HD.out, digsB, if_pos rfl, List.nil_append]
        go_wp2_with fail
        go_ret
        exact ⟨ret_str HE.out, HB.out⟩

/-- spec.l03Text's contract at what fits a right shape of so many levels. -/
def VtAt (d : Nat) : Prop := ∀ (x : Va) (v : Value) (w : World), VtOk d x → IsVa w x v →
  Calls Tryd.prog 71 #[v] w fun e w' => e = .returned (.string ⟨x.txt.toArray⟩) ∧ Below w.heap.size w w'

/-- The texts of items, as strings. -/
def txtsB (it : List Va) : List ByteArray := (Va.txts it).map fun l => ⟨l.toArray⟩
theorem txtsB_succ (it : List Va) (j : Nat) (h : j < it.length) : (txtsB it).take (j + 1) = (txtsB it).take j ++ [⟨it[j].txt.toArray⟩] := by
  unfold txtsB
  rw [← List.map_take, txts_take it j h, List.map_append, List.map_take]
  rfl
theorem txtsB_len (it : List Va) : (txtsB it).length = it.length := by unfold txtsB; rw [List.length_map, txts_len]
theorem txtsB_data (it : List Va) : (txtsB it).map (·.data.toList) = Va.txts it := by
  unfold txtsB
  rw [List.map_map]
  exact List.map_id' _
theorem txtsB_small {d : Nat} (hd : d ≤ 5) {it : List Va} (h : ∀ x ∈ it, VtOk d x) : ∀ s ∈ txtsB it, s.size ≤ 200000 := by
  intro s hs
  obtain ⟨l, hl, rfl⟩ := List.mem_map.1 hs
  have := txts_le (capT d) it (fun x hx => vtxt_len d x (h x hx)) l hl
  have := capV_le hd
  show l.toArray.size ≤ _
  rw [List.size_toArray]; omega
theorem str5 (c d : UInt8) (b : ByteArray) : ((⟨#[c]⟩ ++ b) ++ ⟨#[d]⟩ : ByteArray) = ⟨(c :: (b.data.toList ++ [d])).toArray⟩ := by
  apply ByteArray.ext
  apply Array.ext'
  simp
theorem str6 (b : ByteArray) : ((⟨#[115, 111, 109, 101, 40]⟩ ++ b) ++ ⟨#[41]⟩ : ByteArray) = ⟨([115, 111, 109, 101, 40] ++ (b.data.toList ++ [41])).toArray⟩ := by
  apply ByteArray.ext
  apply Array.ext'
  simp

theorem maybe_txt {n : Int} {t : ByteArray} {it : List Va} {xs : ByteArray} (h : (txtsB it)[0]? = some xs) (hl : it.length = 1) : (Va.mk 5 n t it).txt = [115, 111, 109, 101, 40] ++ (xs.data.toList ++ [41]) := by
  match it, hl with
  | [x], _ =>
    simp only [txtsB, Va.txts, List.map_cons, List.map_nil, List.getElem?_cons_zero, Option.some.injEq] at h
    subst h
    simp [Va.txt, Va.txts, joinC]

set_option maxRecDepth 100000 in
set_option maxHeartbeats 2000000 in
theorem vt_step (d : Nat) (hd5 : d ≤ 5) (ih : VtAt d) (k n : Int) (t : ByteArray) (it : List Va) (p3 : Option Addr) (m3 : Nat) (w : World) (hx : VtOk (d + 1) (.mk k n t it)) (h3 : IsVas w (.slice p3 it.length m3) it) :
    Calls Tryd.prog 71 #[.agg #[.int .i64 k, .int .i64 n, .string t, .slice p3 it.length m3]] w fun e w' => e = .returned (.string ⟨(Va.mk k n t it).txt.toArray⟩) ∧ Below w.heap.size w w' := by
  obtain ⟨a3', cap3, e3, _, hc3, g3⟩ := h3
  simp only [Value.slice.injEq] at e3
  obtain ⟨rfl, _, rfl⟩ := e3
  obtain ⟨ha, h6, hcs⟩ := vt_cases hx
  have HX0 := Lib.hid (Go.Deep.blk_alloc_new w (.cells #[.int .i64 k, .int .i64 n, .string t, .slice p3 it.length m3] 55))
  have HB0 := Lib.hid (below_alloc w (.cells #[.int .i64 k, .int .i64 n, .string t, .slice p3 it.length m3] 55))
  have IH := Lib.hid ih
  have H3 := Lib.hid g3
  have HA := Lib.hid ha
  have HCS := Lib.hid hcs
  have HSM := Lib.hid (txtsB_small hd5 ha)
  clear g3 ih ha hx hcs
  obtain ⟨W, hW⟩ : ∃ W, W = w.alloc (.cells #[.int .i64 k, .int .i64 n, .string t, .slice p3 it.length m3] 55) := ⟨_, rfl⟩
  have HW := Lib.hid hW
  rw [← hW] at HX0 HB0
  have HWS : Hid (W.heap.size = w.heap.size + 1) := by show _ = _; rw [hW]; simp
  clear hW
  have HD := Lib.hid (below_alloc W (.cells #[] 9))
  have HO0 := Lib.hid (OwnStrs.empty W W.heap.size (Nat.le_refl _))
  have HAZ := Lib.hid (blk4 HX0.out).2.2.2.2.2.2.2.2
  go_enter Tryd.func71, Tryd.ntmps71
  go_wp2_with fail
  rw [← HW.out]
  go_loopw [3, 4] (fun l i wr => ∃ (j : Nat) (p : Option Addr) (m : Nat), j ≤ it.length ∧ i = .int .i64 j ∧ l = .slice p j m ∧ Hid (OwnStrs wr W.heap.size (.slice p j m) ((txtsB it).take j)) ∧ Hid (Below W.heap.size W wr)) (fun _ i _ => it.length - (intOf i).toNat)
  case atStart => exact ⟨0, _, _, Nat.zero_le _, rfl, rfl, by show OwnStrs _ _ (.slice (some ⟨w.heap.size + 1, 0, none⟩) 0 0) _; rw [← HWS.out]; exact HO0.out, HD.out⟩
  case round =>
    obtain ⟨j, p, m, hj, rfl, rfl, HO, HBr⟩ := hrel
    obtain ⟨a0, a1, a2, a3, _, _, _, _, az⟩ := blk4 (blk_below HX0.out HBr.out HAZ.out)
    by_cases hlt : j < it.length
    · obtain ⟨b, off, rfl, c0, c1, c2, c3, g0, g1, g2, g3, g4⟩ := IsVas.at H3.out hlt
      have hKp := Keeps.of_below (HB0.out.trans (HBr.out.mono HB0.out.size))
      have s0 := hKp _ _ _ g0
      have s1 := hKp _ _ _ g1
      have s2 := hKp _ _ _ g2
      have s3 := hKp _ _ _ g3
      obtain ⟨q3, y3, rfl, rfl, rfl, rfl⟩ := g4.cells
      have hih := IH.out it[j] _ wr (HA.out it[j] (List.getElem_mem hlt)) (IsVa.keep hKp _ _ g4)
      obtain ⟨xs, hxs⟩ : ∃ xs : ByteArray, xs = ⟨it[j].txt.toArray⟩ := ⟨_, rfl⟩
      have hxz : xs.size ≤ 200000 := by
        rw [hxs]
        show (List.toArray _).size ≤ _
        rw [List.size_toArray]
        exact Nat.le_trans (vtxt_len d _ (HA.out it[j] (List.getElem_mem hlt))) (capV_le hd5)
      rw [← hxs] at hih
      have HIH := Lib.hid hih
      obtain ⟨L, hL⟩ : ∃ L, L = (txtsB it).take j := ⟨_, rfl⟩
      have HLZ : Hid (L.length < 1048576) := by show _ < _; rw [hL, List.length_take, txtsB_len]; omega
      have HO' : Hid (OwnStrs wr W.heap.size (.slice p j m) L) := by show OwnStrs _ _ _ _; rw [hL]; exact HO.out
      have HIT : Hid ((txtsB it).take (j + 1) = L ++ [xs]) := by show _ = _; rw [txtsB_succ it j hlt, hxs, hL]
      have HXX : Hid (xs.size ≤ 9223372036854775807) := by show _ ≤ _; omega
      clear g0 g1 g2 g3 g4 hih hxs hKp hL hxz
      go_wp2_with fail
      refine HIH.out.mono ?_
      rintro e w3 ⟨rfl, hb3⟩
      have HO3 := Lib.hid (HO'.out.block hb3)
      have hX3 := blk_below (blk_below HX0.out HBr.out HAZ.out) hb3 (blk4 (blk_below HX0.out HBr.out HAZ.out)).2.2.2.2.2.2.2.2
      have HB3' := Lib.hid (HBr.out.trans (hb3.mono HBr.out.size))
      clear hb3 s0 s1 s2 s3 a0 a1 a2 a3 az
      obtain ⟨a0, a1, a2, a3, _, _, _, _, az⟩ := blk4 hX3
      clear hX3
      go_wp2_with (at_builtin; go_must (refine wpList_push w3 rfl (.tmp 13) (.tmp 20) rfl W.heap.size (.slice p j m) L xs rfl HO3.out rfl HXX.out HLZ.out HB3'.out.size ?_))
      intro v' w4 hv hg
      have HB4 := Lib.hid (hg _ _ HB3'.out (Nat.le_refl _))
      obtain ⟨pv, nv, mv, rfl⟩ := hv.slice
      have hnv : nv = j + 1 := by
        rw [← HIT.out] at hv
        obtain ⟨_, _, ax, cx, ex, _⟩ := hv.is
        simp only [Value.slice.injEq] at ex
        rw [ex.2.1, List.length_take, txtsB_len]; omega
      subst hnv
      have HV4 := Lib.hid hv
      clear hv hg a0 a1 a2 a3 az
      go_wp2_with fail
      go_roundw
      case rel => exact ⟨j + 1, pv, mv, hlt, by go_num, rfl, by show OwnStrs _ _ _ _; rw [HIT.out]; exact HV4.out, HB4.out⟩
      case measure => simp [intOf]; omega
    · obtain rfl : j = it.length := by omega
      have HL : Hid (OwnStrs wr W.heap.size (.slice p it.length m) (txtsB it)) := by
        have := HO.out
        rw [List.take_of_length_le (by rw [txtsB_len]; exact Nat.le_refl _)] at this
        exact this
      have HEND := Lib.hid (HB0.out.trans (HBr.out.mono HB0.out.size))
      have hj := join_any _ (txtsB it) wr HL.out.is 200000 HSM.out (by rw [txtsB_len]; exact Nat.le_trans (Nat.mul_le_mul_right _ h6) (by decide))
      rw [txtsB_data] at hj
      obtain ⟨js, hjs⟩ : ∃ js : ByteArray, js = ⟨(joinC (Va.txts it)).toArray⟩ := ⟨_, rfl⟩
      have hjz : js.size ≤ 1200006 := by
        rw [hjs]
        show (List.toArray _).size ≤ _
        rw [List.size_toArray]
        have h1 := txts_joined (b := 200000) h6 (fun x hx => Nat.le_trans (vtxt_len d x (HA.out x hx)) (capV_le hd5)) it.length
        rw [List.take_of_length_le (by rw [txts_len]; exact Nat.le_refl _)] at h1
        omega
      rw [← hjs] at hj
      have HJS := Lib.hid hjs
      have HJ := Lib.hid hj
      have hq1 : ¬ 9223372036854775807 < 1 + js.size := by omega
      have hq2 : ¬ 9223372036854775807 < 1 + js.size + 1 := by omega
      clear hjs hj
      rcases HCS.out with ⟨rfl, rfl | rfl, rfl⟩ | ⟨rfl, h0, h1, rfl⟩ | ⟨rfl, h1, rfl⟩ | ⟨rfl, h1, rfl⟩ | ⟨rfl, h1⟩ | rfl | rfl
      · go_wp2_with fail
        go_ret
        exact ⟨ret_str (by simp [Va.txt]), HEND.out.alloc HEND.out.size _⟩
      · go_wp2_with fail
        go_ret
        exact ⟨ret_str (by simp [Va.txt]), HEND.out.alloc HEND.out.size _⟩
      · obtain ⟨q, rfl⟩ := Int.eq_ofNat_of_zero_le h0
        go_wp2_with fail
        refine (dec_any q (by omega) _).mono ?_
        rintro e w' ⟨rfl, hb⟩
        have HBX := Lib.hid (HEND.out.trans (hb.mono HEND.out.size))
        clear hb
        go_wp2_with fail
        go_ret
        exact ⟨ret_str (by simp [Va.txt]), HBX.out⟩
      · have hs1 : ¬ 9223372036854775807 < 1 + t.size := by omega
        have hs2 : ¬ 9223372036854775807 < 1 + t.size + 1 := by omega
        go_wp2_with fail
        go_ret
        exact ⟨ret_str (by rw [str5]; simp [Va.txt]), HEND.out⟩
      · go_wp2_with fail
        go_ret
        exact ⟨ret_str (by simp [Va.txt]), HEND.out⟩
      · by_cases hl0 : it.length = 0
        · have hb0 : ((it.length : Int) == 0) = true := by rw [beq_iff_eq]; omega
          have HE : Hid ((⟨(Va.mk 5 n t it).txt.toArray⟩ : ByteArray) = ⟨#[110, 111, 110, 101]⟩) := by show _ = _; simp [Va.txt, hl0]
          clear hl0
          go_wp2_with fail
          go_ret
          exact ⟨ret_str HE.out.symm, HEND.out⟩
        · have hb0 : ((it.length : Int) == 0) = false := by rw [beq_eq_false_iff_ne]; omega
          obtain ⟨_, _, ax, cx, ex, _, _, g6⟩ := HL.out.is
          simp only [Value.slice.injEq] at ex
          obtain ⟨rfl, _, rfl⟩ := ex
          obtain ⟨bx, ox, rfl, hc⟩ := IsStrs.at g6 (k := 0) (by rw [txtsB_len]; omega)
          obtain ⟨xs, hxs⟩ : ∃ xs, xs = (txtsB it)[0]'(by rw [txtsB_len]; omega) := ⟨_, rfl⟩
          rw [← hxs, Nat.add_zero] at hc
          have hz : xs.size ≤ 200000 := by rw [hxs]; exact HSM.out _ (List.getElem_mem _)
          have hs1 : ¬ 9223372036854775807 < 5 + xs.size := by omega
          have hs2 : ¬ 9223372036854775807 < 5 + xs.size + 1 := by omega
          have hn0 : (0 : Int) < (it.length : Int) := by omega
          have hn1 : 0 < it.length := by omega
          have HE : Hid ((⟨(Va.mk 5 n t it).txt.toArray⟩ : ByteArray) = ((⟨#[115, 111, 109, 101, 40]⟩ ++ xs) ++ ⟨#[41]⟩ : ByteArray)) := by
            show _ = _
            rw [str6, maybe_txt (xs := xs) (by rw [hxs, List.getElem?_eq_getElem]) (by omega)]
          clear hl0 g6 hxs hz
          go_wp2_with fail
          go_ret
          exact ⟨ret_str HE.out.symm, HEND.out⟩
      · go_wp2_with fail
        refine HJ.out.mono ?_
        rintro e w' ⟨rfl, rfl⟩
        go_wp2_with fail
        go_ret
        exact ⟨ret_str (by rw [str5, HJS.out]; simp [Va.txt]), HEND.out⟩
      · go_wp2_with fail
        refine HJ.out.mono ?_
        rintro e w' ⟨rfl, rfl⟩
        go_wp2_with fail
        go_ret
        exact ⟨ret_str (by rw [str5, HJS.out]; simp [Va.txt]), HEND.out⟩

/-- spec.l03Text. -/
theorem vt_any (d : Nat) (hd : d ≤ 5) : VtAt d := by
  induction d with
  | zero => intro x v w hx; exact (vt_zero hx).elim
  | succ d ih =>
    intro x v w hx h
    cases x with | mk k n t it =>
    obtain ⟨p3, m3, rfl, _, _, _, h3⟩ := h.open
    exact vt_step d (by omega) (ih (by omega)) k n t it p3 m3 w hx h3
end Go.Proofs.YtflpfphfoibggaaDoor
