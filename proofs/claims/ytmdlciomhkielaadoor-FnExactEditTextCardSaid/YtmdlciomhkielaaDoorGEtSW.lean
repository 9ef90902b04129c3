/- Walks: spec.l01Dec, spec.l07Word, spec.EditText. -/
import Derived.Test.YtmdlciomhkielaaDoorGEtP
import Derived.Test.YtmdlciomhkielaaDoorGJoinSW
import Derived.Test.YtmdlciomhkielaaDoorGSpTxtW
import Derived.Deep.RegionHeld3
import Derived.Deep.DeepCutAuto
namespace Go.Proofs.YtmdlciomhkielaaDoor
open Go.RowKit

set_option maxRecDepth 100000 in
set_option maxHeartbeats 1000000 in
theorem decE_any (n : Nat) (hn : n ≤ 5) (w : World) :
    Calls Tryd.prog 58 #[.int .i64 n] w fun e w' => e = .returned (.string ⟨(decE n).toArray⟩) ∧ Below w.heap.size w w' := by
  rw [decE_small hn]
  by_cases h0 : n = 0
  · subst h0
    have HR : Hid ((⟨[UInt8.ofNat (48 + 0)].toArray⟩ : ByteArray) = ⟨#[48]⟩) := rfl
    rw [HR.out]
    go_enter Tryd.func58, Tryd.ntmps58
    go_wp2_with fail
    go_ret
    exact ⟨rfl, Below.refl _ _⟩
  · have hne : ((n : Int) == 0) = false := by rw [beq_eq_false_iff_ne]; omega
    have hpos : (0 : Int) ≤ (n : Int) := by omega
    obtain ⟨r, hr⟩ : ∃ r : ByteArray, r = ⟨[UInt8.ofNat (48 + n)].toArray⟩ := ⟨_, rfl⟩
    have HM : Hid (r = ⟨(decE n).toArray⟩) := by show _ = _; rw [decE_small hn]; exact hr
    have HR : Hid (decE n = digsB n) := by show _ = _; unfold decE; rw [if_neg h0]
    rw [← hr]
    clear h0 hr
    go_enter Tryd.func58, Tryd.ntmps58
    go_wp2_with fail
    go_loopw [0, 4] (fun a o wr => ∃ (q : Nat) (s : ByteArray), a = .int .i64 q ∧ o = .string s ∧ Hid (digsB n = digsB q ++ s.data.toList) ∧ q + s.size ≤ n ∧ Hid (Below w.heap.size w wr)) (fun a _ _ => (intOf a).toNat)
    case atStart => exact ⟨n, ⟨#[]⟩, rfl, rfl, (List.append_nil _).symm, Nat.le_refl _, Below.refl _ _⟩
    case round =>
      obtain ⟨q, s, rfl, rfl, HD, hq, HB⟩ := hrel
      by_cases hlt : 0 < q
      · have HDn := Lib.hid (HD.out.trans (digsB_step hlt))
        have b1 : ((q : Int) == 0) = false := by rw [beq_eq_false_iff_ne]; omega
        have b2 : 0 ≤ (q : Int) % 10 := by omega
        have hcv := conv_one wr q
        have hb1 := HB.out.alloc HB.out.size (.cells #[.int .u8 (48 + (q : Int) % 10)] 5)
        have HB1 := Lib.hid hb1
        have hs1 : ¬ 9223372036854775807 < 1 + s.size := by omega
        clear hb1
        go_wp2_with fail
        go_roundw
        case rel => exact ⟨q / 10, ⟨#[dgB q]⟩ ++ s, by rw [Int.natCast_ediv]; rfl, rfl, by show _ = _; rw [HDn.out]; simp, by rw [ByteArray.size_append]; show q / 10 + (1 + s.size) ≤ n; omega, HB1.out⟩
        case measure => simp [intOf]; omega
      · obtain rfl : q = 0 := by omega
        have HE : Hid (s = r) := by
          show _ = _
          apply ByteArray.ext
          apply Array.ext'
          rw [HM.out, HR.out, HD.out, digsB, if_pos rfl, List.nil_append]
        go_wp2_with fail
        go_ret
        exact ⟨ret_str HE.out, HB.out⟩

set_option maxRecDepth 100000 in
set_option maxHeartbeats 4000000 in
theorem word_any (k : Nat) (h1 : 1 ≤ k) (h2 : k ≤ 10) (w : World) :
    Calls Tryd.prog 56 #[.int .i64 (k : Int)] w fun e w' => e = .returned (.string (edWord k)) ∧ Below w.heap.size w w' := by
  have hc : k = 1 ∨ k = 2 ∨ k = 3 ∨ k = 4 ∨ k = 5 ∨ k = 6 ∨ k = 7 ∨ k = 8 ∨ k = 9 ∨ k = 10 := by omega
  clear h1 h2
  rcases hc with rfl | rfl | rfl | rfl | rfl | rfl | rfl | rfl | rfl | rfl
  all_goals
    go_enter Tryd.func56, Tryd.ntmps56
    go_wp2_with fail
    go_ret
    exact ⟨rfl, below_alloc _ _⟩

theorem et_let {kd : Int} {k : Nat} {c : UInt8} (h : k < (takesB kd).size) (hc : (takesB kd)[k] = c) : letB (takesB kd) c = true := letB_yes h hc
theorem et_take {T : ByteArray} {t : Ed} {s : ByteArray} {k : Nat} (h : k < T.size) (hs : s = (T.data.toList.take k).foldl (etStep t) (et0 t)) : etStep t s T[k] = (T.data.toList.take (k + 1)).foldl (etStep t) (et0 t) := by
  have hl : k < T.data.toList.length := by rw [len_list]; exact h
  rw [List.take_succ_eq_append_getElem hl, List.foldl_append, ← hs]
  have : T.data.toList[k] = T[k] := by simp; rfl
  rw [this]; rfl

set_option maxRecDepth 100000 in
set_option maxHeartbeats 8000000 in
theorem specEdText_is (t : Ed) (r : ByteArray) (hr : etT t = r) (v : Value) (w : World) (h : IsEd w t v) :
    Calls Tryd.prog 26 #[v] w fun e w' => e = .returned (.string r) ∧ Below w.heap.size w w' := by
  have HH := Lib.hid h
  obtain ⟨p0, m0, p1, n1, m1, p2, n2, m2, p3, n3, m3, q1, i1, j1, q2, i2, j2, q3, i3, j3, rfl, _, _, _, _, h5, h6, h7⟩ := h
  obtain ⟨kd, path, pl, nm, tn, sh, ws⟩ := t
  dsimp only at HH h5 h6 h7 ⊢
  obtain ⟨W, hW⟩ : ∃ W, W = w.alloc (.cells #[.int .i64 kd, .slice p0 path.length m0, .int .i64 pl, .string nm, .string tn, .int .i64 sh.kd, .slice p1 n1 m1, .slice p2 n2 m2, .slice p3 n3 m3, .int .i64 ws.kd, .slice q1 i1 j1, .slice q2 i2 j2, .slice q3 i3 j3] 51) := ⟨_, rfl⟩
  have hba := below_alloc w (.cells #[.int .i64 kd, .slice p0 path.length m0, .int .i64 pl, .string nm, .string tn, .int .i64 sh.kd, .slice p1 n1 m1, .slice p2 n2 m2, .slice p3 n3 m3, .int .i64 ws.kd, .slice q1 i1 j1, .slice q2 i2 j2, .slice q3 i3 j3] 51)
  have hx := Go.Deep.blk_alloc_new w (.cells #[.int .i64 kd, .slice p0 path.length m0, .int .i64 pl, .string nm, .string tn, .int .i64 sh.kd, .slice p1 n1 m1, .slice p2 n2 m2, .slice p3 n3 m3, .int .i64 ws.kd, .slice q1 i1 j1, .slice q2 i2 j2, .slice q3 i3 j3] 51)
  rw [← hW] at hba hx
  have A0 := Lib.hid hx
  have B0 := Lib.hid hba
  have HW := Lib.hid hW
  have HR := Lib.hid hr
  have H5 := Lib.hid h5
  have H6 := Lib.hid h6
  have H7 := Lib.hid h7
  obtain ⟨ok, hok⟩ : ∃ ok, edOk ⟨kd, path, pl, nm, tn, sh, ws⟩ = ok := ⟨_, rfl⟩
  have OK := Lib.hid hok
  clear hba hx hW hr hok h5 h6 h7
  have a0 := cel A0.out 0 rfl
  have a1 := cel A0.out 1 rfl
  have a2 := cel A0.out 2 rfl
  have a3 := cel A0.out 3 rfl
  have a4 := cel A0.out 4 rfl
  have a5 := cel A0.out 5 rfl
  have a6 := cel A0.out 6 rfl
  have a7 := cel A0.out 7 rfl
  have a8 := cel A0.out 8 rfl
  have a9 := cel A0.out 9 rfl
  have a10 := cel A0.out 10 rfl
  have a11 := cel A0.out 11 rfl
  have a12 := cel A0.out 12 rfl
  go_enter Tryd.func26, Tryd.ntmps26
  go_wp2_with fail
  rw [← HW.out]
  refine (specEd_is ⟨kd, path, pl, nm, tn, sh, ws⟩ ok OK.out _ _ (HH.out.keep (Keeps.of_below B0.out))).mono ?_
  rintro e w1 ⟨rfl, hb1⟩
  have A1 := Lib.hid (blk_below A0.out hb1 (Array.getElem?_eq_some_iff.1 A0.out).1)
  have B1 := Lib.hid (B0.out.trans (hb1.mono B0.out.size))
  clear hb1 a0 a1 a2 a3 a4 a5 a6 a7 a8 a9 a10 a11 a12
  cases ok
  · have HE : Hid (r = ⟨#[]⟩) := by show _ = _; rw [← HR.out]; unfold etT; rw [OK.out]; rfl
    go_wp2_with fail
    go_ret
    exact ⟨ret_str HE.out.symm, B1.out⟩
  obtain ⟨⟨g1, g2⟩, _⟩ := ed_small OK.out
  obtain ⟨e1, e2, e3, e4, e5⟩ := et_small OK.out
  dsimp only at g1 g2 e1 e2 e3 e4 e5
  obtain ⟨k, rfl⟩ : ∃ k : Nat, kd = (k : Int) := ⟨kd.toNat, by omega⟩
  have k1 : 1 ≤ k := by omega
  have k2 : k ≤ 10 := by omega
  have HE : Hid (r = (takesB k).data.toList.foldl (etStep ⟨(k : Int), path, pl, nm, tn, sh, ws⟩) (et0 ⟨(k : Int), path, pl, nm, tn, sh, ws⟩)) := by show _ = _; rw [← HR.out]; unfold etT; rw [OK.out]; rfl
  have E1 := Lib.hid e1
  have E4 := Lib.hid e4
  have E5 := Lib.hid e5
  clear g1 g2 e1 e4 e5
  have HSK : Hid (∀ w', Below w1.heap.size w1 w' → (w'.cell? ⟨w.heap.size, 0, none⟩ = some (.int .i64 (k : Int)) ∧ w'.cell? ⟨w.heap.size, 1, none⟩ = some (.slice p0 path.length m0))) := fun w' hb => ⟨Keeps.of_below hb _ _ _ (cel A1.out 0 rfl), Keeps.of_below hb _ _ _ (cel A1.out 1 rfl)⟩
  obtain ⟨wd, hwd⟩ : ∃ x, x = edWord k := ⟨_, rfl⟩
  obtain ⟨pt, hpt⟩ : ∃ x, pathT path = x := ⟨_, rfl⟩
  have hws : wd.size ≤ 5 := by rw [hwd]; exact edWord_size k
  have hps : pt.size ≤ 46 := by rw [← hpt]; exact pathT_size path
  have H0 : Hid (et0 ⟨(k : Int), path, pl, nm, tn, sh, ws⟩ = (wd ++ ⟨#[32]⟩) ++ pt) := by show _ = _; rw [hwd, ← hpt]; rfl
  have HWD := Lib.hid hwd
  have HPT := Lib.hid hpt
  have CW := Lib.hid (fun (w' : World) => word_any k k1 k2 w')
  rw [← hwd] at CW
  have CP := Lib.hid (fun (w' : World) (hb : Below w1.heap.size w1 w') => specPathText_is _ path pt hpt w' (H5.out.keep (Keeps.of_below (B1.out.trans (hb.mono B1.out.size)))))
  have hq1 : ¬ 9223372036854775807 < wd.size + 1 := by omega
  have hq2 : ¬ 9223372036854775807 < wd.size + 1 + pt.size := by omega
  clear hwd hpt
  go_upto_region 3 with fail
  go_cut [3] (fun x wc => x = .string ((wd ++ ⟨#[32]⟩) ++ pt) ∧ Hid (Below w1.heap.size w1 wc))
  case first =>
    go_region_held3 (fun w' => w'.cell? ⟨w.heap.size, 0, none⟩ = some (.int .i64 (k : Int)) ∧ w'.cell? ⟨w.heap.size, 1, none⟩ = some (.slice p0 path.length m0))
      (first
        | with_reducible exact HSK.out _ BD.out
        | with_reducible exact HSK.out _ BC.out
        | with_reducible exact HSK.out _ BB.out
        | with_reducible exact HSK.out _ BA.out
        | with_reducible exact HSK.out _ (Below.refl _ w1).drew)
      (first
        | (go_at_call 56; (with_reducible show Go.Calls _ _ _ (w1.drew) _); refine (CW.out w1.drew).mono ?_; rintro e wa ⟨rfl, hb⟩; have BA := Lib.hid ((Below.refl w1.heap.size w1).drew.trans (show Below w1.heap.size w1.drew wa from hb)); clear hb)
        | (go_at_call 41; (with_reducible show Go.Calls _ _ _ (w1.drew) _); refine (CP.out w1.drew (Below.refl _ w1).drew).mono ?_; rintro e wb ⟨rfl, hb⟩; have BB := Lib.hid ((Below.refl w1.heap.size w1).drew.trans (show Below w1.heap.size w1.drew wb from hb)); clear hb)
        | (go_at_call 41; (with_reducible show Go.Calls _ _ _ (wa) _); refine (CP.out wa BA.out).mono ?_; rintro e wc ⟨rfl, hb⟩; have BC := Lib.hid (BA.out.trans (hb.mono BA.out.size)); clear hb)
        | (go_at_call 56; (with_reducible show Go.Calls _ _ _ (wb) _); refine (CW.out wb).mono ?_; rintro e wd' ⟨rfl, hb⟩; have BD := Lib.hid (BB.out.trans (hb.mono BB.out.size)); clear hb)
        | fail)
    all_goals
      go_wp2_with fail
      go_meet
      first | exact ⟨rfl, BC.out⟩ | exact ⟨rfl, BD.out⟩
  case rest =>
    rename World => w2
    obtain ⟨rfl, hb⟩ := hcut
    have hb' := hb.out
    have A2 := Lib.hid (blk_below A1.out hb' (Array.getElem?_eq_some_iff.1 A1.out).1)
    have B2 := Lib.hid (B1.out.trans (hb'.mono B1.out.size))
    clear hb hb' HSK CW CP
    have TZ : (takesB (k : Int)).size ≤ 3 := takesB_small _
    obtain ⟨l1, l2, l3, l4, l5⟩ := letters (k : Int)
    obtain ⟨s0, hs0⟩ : ∃ s0, (wd ++ ⟨#[32]⟩) ++ pt = s0 := ⟨_, rfl⟩
    have hz0 : s0.size ≤ 52 := by rw [← hs0, ByteArray.size_append, ByteArray.size_append]; show wd.size + 1 + pt.size ≤ 52; omega
    rw [hs0] at H0 ⊢
    have F1 : Hid (∀ j (hj : j < (takesB (k : Int)).size), ((takesB (k : Int))[j] = 97 → 0 ≤ pl ∧ pl ≤ 5) ∧ ((takesB (k : Int))[j] = 115 → partOk 5 sh = true) ∧ ((takesB (k : Int))[j] = 119 → partOk 5 ws = true)) := fun j hj =>
      ⟨fun hc => E1.out (l1.symm.trans (et_let hj hc)), fun hc => E4.out (l4.symm.trans (et_let hj hc)), fun hc => E5.out (l5.symm.trans (et_let hj hc))⟩
    have a0 := cel A2.out 0 rfl
    go_wp2_with fail
    refine (takes_is (k : Int) _).mono ?_
    rintro e w' ⟨rfl, rfl⟩
    obtain ⟨T, hT⟩ : ∃ T, takesB (k : Int) = T := ⟨_, rfl⟩
    rw [hT] at HE TZ F1 ⊢
    clear l1 l2 l3 l4 l5 hT hs0 a0 hq1 hq2 hws hps
    go_wp2_with fail
    go_loopw [3, 5] (fun x i wr => ∃ (j : Nat) (s : ByteArray), j ≤ T.size ∧ i = .int .i64 j ∧ x = .string s ∧ Hid (s = (T.data.toList.take j).foldl (etStep ⟨(k : Int), path, pl, nm, tn, sh, ws⟩) (et0 ⟨(k : Int), path, pl, nm, tn, sh, ws⟩)) ∧ s.size ≤ 52 + j * 200001 ∧ Hid (Below w2.heap.size w2 wr)) (fun _ i _ => T.size - (intOf i).toNat)
    case atStart => exact ⟨0, s0, Nat.zero_le _, rfl, rfl, by show _ = _; rw [List.take_zero]; exact H0.out.symm, by omega, Below.refl _ _⟩
    case round =>
      obtain ⟨j, s, hj, rfl, rfl, HS, hz, HB⟩ := hrel
      by_cases hlt : j < T.size
      · have HN := Lib.hid (et_take hlt HS.out)
        obtain ⟨f1, f2, f3⟩ := F1.out j hlt
        have A3 := Lib.hid (blk_below A2.out HB.out (Array.getElem?_eq_some_iff.1 A2.out).1)
        have B3 := Lib.hid (B2.out.trans (HB.out.mono B2.out.size))
        have hj3 : j * 200001 ≤ 600003 := by omega
        have hq1 : ¬ 9223372036854775807 < s.size + 1 := by omega
        by_cases ha : T[j] = 97
        · have hv : ((T[j].toNat : Int) == 97) = true := by rw [ha]; rfl
          rw [ha] at HN
          obtain ⟨y1, y2⟩ := f1 ha
          obtain ⟨n, rfl⟩ : ∃ n : Nat, pl = (n : Int) := ⟨pl.toNat, by omega⟩
          have hn5 : n ≤ 5 := by omega
          have a2 := cel A3.out 2 rfl
          obtain ⟨x, hx⟩ : ∃ x : ByteArray, x = ⟨(decE n).toArray⟩ := ⟨_, rfl⟩
          have hxs : x.size ≤ 1 := by rw [hx, dec_size hn5]; exact Nat.le_refl _
          have hq2 : ¬ 9223372036854775807 < s.size + 1 + x.size := by omega
          have HX := Lib.hid hx
          have HQ : Hid ((s ++ ⟨#[32]⟩) ++ x = (T.data.toList.take (j + 1)).foldl (etStep ⟨(k : Int), path, (n : Int), nm, tn, sh, ws⟩) (et0 ⟨(k : Int), path, (n : Int), nm, tn, sh, ws⟩)) := by show _ = _; rw [hx]; exact HN.out
          have hz2 : ((s ++ ⟨#[32]⟩) ++ x).size ≤ 52 + (j + 1) * 200001 := by rw [ByteArray.size_append, ByteArray.size_append]; show s.size + 1 + x.size ≤ _; omega
          clear ha f1 f2 f3 hx
          go_wp2_with fail
          refine (decE_any n hn5 _).mono ?_
          rintro e w3 ⟨rfl, hb⟩
          have HB3 := Lib.hid (HB.out.trans (hb.mono HB.out.size))
          clear hb
          rw [← HX.out]
          go_wp2_with fail
          go_roundw
          case rel => exact ⟨j + 1, _, hlt, by go_num, rfl, HQ.out, hz2, HB3.out⟩
          case measure => first | (simp [intOf]; done) | (simp [intOf]; omega)
        by_cases hn : T[j] = 110
        · have hv : ((T[j].toNat : Int) == 110) = true := by rw [hn]; rfl
          have va : ((T[j].toNat : Int) == 97) = false := by rw [hn]; rfl
          rw [hn] at HN
          have a3 := cel A3.out 3 rfl
          have hq2 : ¬ 9223372036854775807 < s.size + 1 + nm.size := by omega
          have HQ : Hid ((s ++ ⟨#[32]⟩) ++ nm = (T.data.toList.take (j + 1)).foldl (etStep ⟨(k : Int), path, pl, nm, tn, sh, ws⟩) (et0 ⟨(k : Int), path, pl, nm, tn, sh, ws⟩)) := HN.out
          have hz2 : ((s ++ ⟨#[32]⟩) ++ nm).size ≤ 52 + (j + 1) * 200001 := by rw [ByteArray.size_append, ByteArray.size_append]; show s.size + 1 + nm.size ≤ _; omega
          clear hn f1 f2 f3
          go_wp2_with fail
          go_roundw
          case rel => exact ⟨j + 1, _, hlt, by go_num, rfl, HQ.out, hz2, HB.out⟩
          case measure => first | (simp [intOf]; done) | (simp [intOf]; omega)
        by_cases ht : T[j] = 116
        · have hv : ((T[j].toNat : Int) == 116) = true := by rw [ht]; rfl
          have va : ((T[j].toNat : Int) == 97) = false := by rw [ht]; rfl
          have vn : ((T[j].toNat : Int) == 110) = false := by rw [ht]; rfl
          rw [ht] at HN
          have a4 := cel A3.out 4 rfl
          have hq2 : ¬ 9223372036854775807 < s.size + 1 + tn.size := by omega
          have HQ : Hid ((s ++ ⟨#[32]⟩) ++ tn = (T.data.toList.take (j + 1)).foldl (etStep ⟨(k : Int), path, pl, nm, tn, sh, ws⟩) (et0 ⟨(k : Int), path, pl, nm, tn, sh, ws⟩)) := HN.out
          have hz2 : ((s ++ ⟨#[32]⟩) ++ tn).size ≤ 52 + (j + 1) * 200001 := by rw [ByteArray.size_append, ByteArray.size_append]; show s.size + 1 + tn.size ≤ _; omega
          clear ht f1 f2 f3
          go_wp2_with fail
          go_roundw
          case rel => exact ⟨j + 1, _, hlt, by go_num, rfl, HQ.out, hz2, HB.out⟩
          case measure => first | (simp [intOf]; done) | (simp [intOf]; omega)
        by_cases hs : T[j] = 115
        · have hv : ((T[j].toNat : Int) == 115) = true := by rw [hs]; rfl
          have va : ((T[j].toNat : Int) == 97) = false := by rw [hs]; rfl
          have vn : ((T[j].toNat : Int) == 110) = false := by rw [hs]; rfl
          have vt : ((T[j].toNat : Int) == 116) = false := by rw [hs]; rfl
          rw [hs] at HN
          have hok := f2 hs
          have a5 := cel A3.out 5 rfl
          have a6 := cel A3.out 6 rfl
          have a7 := cel A3.out 7 rfl
          have a8 := cel A3.out 8 rfl
          obtain ⟨x, hx⟩ : ∃ x : ByteArray, x = ⟨sh.txt.toArray⟩ := ⟨_, rfl⟩
          have hxs : x.size ≤ 200000 := by rw [hx]; exact txt_small hok
          have HOKX := Lib.hid hok
          clear hok
          have hq2 : ¬ 9223372036854775807 < s.size + 1 + x.size := by omega
          have HX := Lib.hid hx
          have HQ : Hid ((s ++ ⟨#[32]⟩) ++ x = (T.data.toList.take (j + 1)).foldl (etStep ⟨(k : Int), path, pl, nm, tn, sh, ws⟩) (et0 ⟨(k : Int), path, pl, nm, tn, sh, ws⟩)) := by show _ = _; rw [hx]; exact HN.out
          have hz2 : ((s ++ ⟨#[32]⟩) ++ x).size ≤ 52 + (j + 1) * 200001 := by rw [ByteArray.size_append, ByteArray.size_append]; show s.size + 1 + x.size ≤ _; omega
          clear hs f1 f2 f3 hx
          go_wp2_with fail
          refine (st_any 5 (Nat.le_refl _) sh _ _ HOKX.out (IsSh.keep (Keeps.of_below B3.out) _ _ H6.out)).mono ?_
          rintro e w3 ⟨rfl, hb⟩
          have HB3 := Lib.hid (HB.out.trans (hb.mono HB.out.size))
          clear hb
          rw [← HX.out]
          go_wp2_with fail
          go_roundw
          case rel => exact ⟨j + 1, _, hlt, by go_num, rfl, HQ.out, hz2, HB3.out⟩
          case measure => first | (simp [intOf]; done) | (simp [intOf]; omega)
        by_cases hw : T[j] = 119
        · have hv : ((T[j].toNat : Int) == 119) = true := by rw [hw]; rfl
          have va : ((T[j].toNat : Int) == 97) = false := by rw [hw]; rfl
          have vn : ((T[j].toNat : Int) == 110) = false := by rw [hw]; rfl
          have vt : ((T[j].toNat : Int) == 116) = false := by rw [hw]; rfl
          have vs : ((T[j].toNat : Int) == 115) = false := by rw [hw]; rfl
          rw [hw] at HN
          have hok := f3 hw
          have a9 := cel A3.out 9 rfl
          have a10 := cel A3.out 10 rfl
          have a11 := cel A3.out 11 rfl
          have a12 := cel A3.out 12 rfl
          obtain ⟨x, hx⟩ : ∃ x : ByteArray, x = ⟨ws.txt.toArray⟩ := ⟨_, rfl⟩
          have hxs : x.size ≤ 200000 := by rw [hx]; exact txt_small hok
          have HOKX := Lib.hid hok
          clear hok
          have hq2 : ¬ 9223372036854775807 < s.size + 1 + x.size := by omega
          have HX := Lib.hid hx
          have HQ : Hid ((s ++ ⟨#[32]⟩) ++ x = (T.data.toList.take (j + 1)).foldl (etStep ⟨(k : Int), path, pl, nm, tn, sh, ws⟩) (et0 ⟨(k : Int), path, pl, nm, tn, sh, ws⟩)) := by show _ = _; rw [hx]; exact HN.out
          have hz2 : ((s ++ ⟨#[32]⟩) ++ x).size ≤ 52 + (j + 1) * 200001 := by rw [ByteArray.size_append, ByteArray.size_append]; show s.size + 1 + x.size ≤ _; omega
          clear hw f1 f2 f3 hx
          go_wp2_with fail
          refine (st_any 5 (Nat.le_refl _) ws _ _ HOKX.out (IsSh.keep (Keeps.of_below B3.out) _ _ H7.out)).mono ?_
          rintro e w3 ⟨rfl, hb⟩
          have HB3 := Lib.hid (HB.out.trans (hb.mono HB.out.size))
          clear hb
          rw [← HX.out]
          go_wp2_with fail
          go_roundw
          case rel => exact ⟨j + 1, _, hlt, by go_num, rfl, HQ.out, hz2, HB3.out⟩
          case measure => first | (simp [intOf]; done) | (simp [intOf]; omega)
        have va : ((T[j].toNat : Int) == 97) = false := by rw [beq_eq_false_iff_ne]; intro e; exact ha (UInt8.toNat_inj.1 (Int.ofNat_inj.1 e))
        have vn : ((T[j].toNat : Int) == 110) = false := by rw [beq_eq_false_iff_ne]; intro e; exact hn (UInt8.toNat_inj.1 (Int.ofNat_inj.1 e))
        have vt : ((T[j].toNat : Int) == 116) = false := by rw [beq_eq_false_iff_ne]; intro e; exact ht (UInt8.toNat_inj.1 (Int.ofNat_inj.1 e))
        have vs : ((T[j].toNat : Int) == 115) = false := by rw [beq_eq_false_iff_ne]; intro e; exact hs (UInt8.toNat_inj.1 (Int.ofNat_inj.1 e))
        have vw : ((T[j].toNat : Int) == 119) = false := by rw [beq_eq_false_iff_ne]; intro e; exact hw (UInt8.toNat_inj.1 (Int.ofNat_inj.1 e))
        have HQ : Hid (s = (T.data.toList.take (j + 1)).foldl (etStep ⟨(k : Int), path, pl, nm, tn, sh, ws⟩) (et0 ⟨(k : Int), path, pl, nm, tn, sh, ws⟩)) := by
          have h := HN.out
          unfold etStep at h
          rw [if_neg ha, if_neg hn, if_neg ht, if_neg hs, if_neg hw] at h
          exact h
        have hz3 : s.size ≤ 52 + (j + 1) * 200001 := Nat.le_trans hz (Nat.add_le_add_left (Nat.mul_le_mul_right _ (Nat.le_succ _)) _)
        clear ha hn ht hs hw f1 f2 f3
        go_wp2_with fail
        go_roundw
        case rel => exact ⟨j + 1, _, hlt, by go_num, rfl, HQ.out, hz3, HB.out⟩
        case measure => first | (simp [intOf]; done) | (simp [intOf]; omega)
      · obtain rfl : j = T.size := by omega
        have HF : Hid (s = r) := by show _ = _; rw [HE.out, HS.out, List.take_of_length_le (by rw [len_list]; exact Nat.le_refl _)]
        go_wp2_with fail
        go_ret
        exact ⟨ret_str HF.out, B2.out.trans (HB.out.mono B2.out.size)⟩
end Go.Proofs.YtmdlciomhkielaaDoor
