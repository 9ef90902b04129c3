/- Walk: impl.Trim. -/
import Derived.Test.YtfdhmkmeffgkgaaDoorGTrB
import Derived.Test.YtfdhmkmeffgkgaaDoorGUndA
namespace Go.Proofs.YtfdhmkmeffgkgaaDoor
open Go.RowKit

theorem eds_low {w w2 wr : World} {l : List Ed} {p : Option Addr} {n cap : Nat} {cs : List Value} {F : List Nat} (h : EdsInv w2 wr l p n cap cs F) (hb : Below w.heap.size w w2) : EdsInv w wr l p n cap cs F := by
  obtain ⟨h0, h1, h2, h3, h4⟩ := h
  exact ⟨h0, own_mono h1 hb.size, h2.move hb.size fun _ _ => rfl, h3, hb.trans (h4.mono hb.size)⟩
theorem trim_nil (w w' : World) (hb : Below w.heap.size w w') : EdsPost [] w (.returned (.slice none 0 0)) w' := ⟨none, 0, 0, [], [], rfl, rfl, World.ownsRow_nil _ _ _ _, by simp [OwnAllE], by simp [blkOf], hb⟩
set_option maxRecDepth 100000 in
set_option maxHeartbeats 8000000 in
theorem implTrim_is (l r : List Ed) (hr : TrimOf l r) (v : Value) (w : World) (h : IsEds w v l) (hek : EkAt w) :
    Calls Tryd.prog 21 #[v] w (EdsPost r w) := by
  have HH := Lib.hid h
  have HR := Lib.hid hr
  have EK := Lib.hid hek
  obtain ⟨a, cap0, rfl, h3, h4, h6⟩ := h
  have H6 := Lib.hid h6
  clear h6 hr hek
  by_cases hbig : 400 < l.length
  · have hbig' : (400 : Int) < l.length := by omega
    obtain rfl := trim_big HR.out hbig
    clear hbig
    go_enter Tryd.func21, Tryd.ntmps21
    go_wp2_with fail
    go_ret
    exact trim_nil w w (Below.refl _ _)
  have hle : (l.length : Int) ≤ 400 := by omega
  have HLE : Hid (l.length ≤ 400) := by show _ ≤ _; omega
  clear hbig
  go_enter Tryd.func21, Tryd.ntmps21
  go_wp2_with fail
  go_loopw [13] (fun i wr => ∃ k : Nat, k ≤ l.length ∧ i = .int .i64 k ∧ Hid ((l.take k).all edOk = true) ∧ Hid (Below w.heap.size w wr)) (fun i _ => l.length - (intOf i).toNat)
  case atStart => exact ⟨0, Nat.zero_le _, rfl, rfl, Below.refl _ _⟩
  case round =>
    obtain ⟨k, hk, rfl, HA, HB⟩ := hrel
    by_cases hlt : k < l.length
    · have hlti : (k : Int) < l.length := by omega
      obtain ⟨b, off, rfl, c0, c1, c2, c3, c4, c5, c6, c7, c8, c9, c10, c11, c12, g0, g1, g2, g3, g4, g5, g6, g7, g8, g9, g10, g11, g12, g13⟩ := IsEds.at H6.out hlt
      obtain ⟨t, ht⟩ : ∃ t, t = l[k] := ⟨_, rfl⟩
      rw [← ht] at g13
      have hIs := g13
      obtain ⟨p0, m0, p1, n1, m1, p2, n2, m2, p3, n3, m3, q1, i1, j1, q2, i2, j2, q3, i3, j3, he, _⟩ := g13
      simp only [Value.agg.injEq, Array.mk.injEq, List.cons.injEq, and_true] at he
      obtain ⟨rfl, rfl, rfl, rfl, rfl, rfl, rfl, rfl, rfl, rfl, rfl, rfl, rfl⟩ := he
      have hk' := Keeps.of_below HB.out
      have k0 := hk' _ _ _ g0
      have k1 := hk' _ _ _ g1
      have k2 := hk' _ _ _ g2
      have k3 := hk' _ _ _ g3
      have k4 := hk' _ _ _ g4
      have k5 := hk' _ _ _ g5
      have k6 := hk' _ _ _ g6
      have k7 := hk' _ _ _ g7
      have k8 := hk' _ _ _ g8
      have k9 := hk' _ _ _ g9
      have k10 := hk' _ _ _ g10
      have k11 := hk' _ _ _ g11
      have k12 := hk' _ _ _ g12
      have KT := Lib.hid (hIs.keep hk')
      have HTE := Lib.hid ht
      clear hIs hk' ht g0 g1 g2 g3 g4 g5 g6 g7 g8 g9 g10 g11 g12
      have EKW := Lib.hid (EK.out.keep (Keeps.of_below HB.out))
      obtain ⟨ok, hok⟩ : ∃ ok, edOk t = ok := ⟨_, rfl⟩
      have OK := Lib.hid hok
      have HLT : Hid (k < l.length) := hlt
      clear hok
      obtain ⟨V, hV⟩ : ∃ V, V = wr.alloc (.cells #[.int .i64 t.kd, .slice p0 t.path.length m0, .int .i64 t.pl, .string t.nm, .string t.tn, .int .i64 t.sh.kd, .slice p1 n1 m1, .slice p2 n2 m2, .slice p3 n3 m3, .int .i64 t.ws.kd, .slice q1 i1 j1, .slice q2 i2 j2, .slice q3 i3 j3] 33) := ⟨_, rfl⟩
      have hn0 : V.heap[wr.heap.size]? = some (.cells #[.int .i64 t.kd, .slice p0 t.path.length m0, .int .i64 t.pl, .string t.nm, .string t.tn, .int .i64 t.sh.kd, .slice p1 n1 m1, .slice p2 n2 m2, .slice p3 n3 m3, .int .i64 t.ws.kd, .slice q1 i1 j1, .slice q2 i2 j2, .slice q3 i3 j3] 33 (0, 0)) := by rw [hV]; exact Go.Deep.blk_alloc_new _ _
      have hbv : Below wr.heap.size wr V := by rw [hV]; exact below_alloc _ _
      have HV := Lib.hid hV
      have HN0 := Lib.hid hn0
      have HBV := Lib.hid hbv
      clear hV hn0 hbv
      go_upto_region 6 with fail
      rw [← HV.out]
      clear k0 k1 k2 k3 k4 k5 k6 k7 k8 k9 k10 k11 k12
      have a0 := cel HN0.out 0 rfl
      have a1 := cel HN0.out 1 rfl
      have a2 := cel HN0.out 2 rfl
      have a3 := cel HN0.out 3 rfl
      have a4 := cel HN0.out 4 rfl
      have a5 := cel HN0.out 5 rfl
      have a6 := cel HN0.out 6 rfl
      have a7 := cel HN0.out 7 rfl
      have a8 := cel HN0.out 8 rfl
      have a9 := cel HN0.out 9 rfl
      have a10 := cel HN0.out 10 rfl
      have a11 := cel HN0.out 11 rfl
      have a12 := cel HN0.out 12 rfl
      go_wp2_with fail
      refine (implEd_is t ok OK.out _ V (KT.out.keep (Keeps.of_below HBV.out)) (EKW.out.keep (Keeps.of_below HBV.out))).mono ?_
      rintro e w1 ⟨rfl, hb1⟩
      have HB1 := Lib.hid (HB.out.trans ((HBV.out.trans (hb1.mono HBV.out.size)).mono HB.out.size))
      clear hb1 a0 a1 a2 a3 a4 a5 a6 a7 a8 a9 a10 a11 a12
      cases ok
      · have HE : Hid (r = []) := trim_no HR.out HLT.out (by rw [← HTE.out]; exact OK.out)
        go_wp2_with fail
        go_ret
        rw [HE.out]
        exact trim_nil w w1 HB1.out
      · have HA2 : Hid ((l.take (k + 1)).all edOk = true) := by show _ = _; rw [List.take_succ_eq_append_getElem HLT.out, List.all_append, HA.out, ← HTE.out]; simp [OK.out]
        go_wp2_with fail
        go_roundw
        case rel => exact ⟨k + 1, HLT.out, by go_num, HA2.out, HB1.out⟩
        case measure => simp [intOf]; have := HLT.out; omega
    · obtain rfl : k = l.length := by omega
      have hall : l.all edOk = true := by have := HA.out; rwa [List.take_length] at this
      have HAL := Lib.hid hall
      have HTR : Hid (Trims l r) := trim_yes HR.out HLE.out hall
      have HRS := Lib.hid HTR.out.sub
      have HRA : Hid (r.all edOk = true) := by
        show _ = _
        rw [List.all_eq_true] at hall ⊢
        exact fun x hx => hall x (HRS.out.subset hx)
      have HRL : Hid (r.length ≤ 400) := by show _ ≤ _; have := HRS.out.length_le; have := HLE.out; omega
      clear hall
      go_wp2_with fail
      refine (trimmed_is l r _ wr HTR.out HLE.out HAL.out (HH.out.keep (Keeps.of_below HB.out)) (EK.out.keep (Keeps.of_below HB.out))).mono ?_
      rintro e w2 ⟨v2, rfl, hI2, hb2⟩
      obtain ⟨a2, cap2, rfl, r3, r4, r6⟩ := hI2
      have R6 := Lib.hid r6
      have HB2 := Lib.hid (HB.out.trans (hb2.mono HB.out.size))
      have Z2 : Hid (w.heap.size ≤ w2.heap.size) := HB2.out.size
      clear hb2 r6
      go_wp2_with fail
      go_loopw [5, 24] (fun o i wr => ∃ (k : Nat) (p : Option Addr) (n cap : Nat) (cs : List Value) (F : List Nat), k ≤ r.length ∧ i = .int .i64 k ∧ o = .slice p n cap ∧ Hid (EdsInv w2 wr (r.take k) p n cap cs F)) (fun _ i _ => r.length - (intOf i).toNat)
      case atStart => exact ⟨0, none, 0, 0, [], [], Nat.zero_le _, rfl, rfl, ⟨rfl, World.ownsRow_nil _ _ _ _, by simp [OwnAllE], by simp [blkOf], Below.refl _ _⟩⟩
      case round =>
        obtain ⟨k, p, n, cap, cs, F, hk, rfl, rfl, HI⟩ := hrel
        have HBR := Lib.hid HI.out.2.2.2.2
        by_cases hlt : k < r.length
        · have hlti : (k : Int) < r.length := by omega
          obtain ⟨b, off, rfl, c0, c1, c2, c3, c4, c5, c6, c7, c8, c9, c10, c11, c12, g0, g1, g2, g3, g4, g5, g6, g7, g8, g9, g10, g11, g12, g13⟩ := IsEds.at R6.out hlt
          obtain ⟨t, ht⟩ : ∃ t, t = r[k] := ⟨_, rfl⟩
          rw [← ht] at g13
          have hIs := g13
          obtain ⟨p0, m0, p1, n1, m1, p2, n2, m2, p3, n3, m3, q1, i1, j1, q2, i2, j2, q3, i3, j3, he, _⟩ := g13
          simp only [Value.agg.injEq, Array.mk.injEq, List.cons.injEq, and_true] at he
          obtain ⟨rfl, rfl, rfl, rfl, rfl, rfl, rfl, rfl, rfl, rfl, rfl, rfl, rfl⟩ := he
          have hk' := Keeps.of_below HBR.out
          have k0 := hk' _ _ _ g0
          have k1 := hk' _ _ _ g1
          have k2 := hk' _ _ _ g2
          have k3 := hk' _ _ _ g3
          have k4 := hk' _ _ _ g4
          have k5 := hk' _ _ _ g5
          have k6 := hk' _ _ _ g6
          have k7 := hk' _ _ _ g7
          have k8 := hk' _ _ _ g8
          have k9 := hk' _ _ _ g9
          have k10 := hk' _ _ _ g10
          have k11 := hk' _ _ _ g11
          have k12 := hk' _ _ _ g12
          have KT := Lib.hid (hIs.keep hk')
          have HTE := Lib.hid ht
          clear hIs hk' ht g0 g1 g2 g3 g4 g5 g6 g7 g8 g9 g10 g11 g12
          have HLT : Hid (k < r.length) := hlt
          have OK : Hid (edOk t = true) := by show _ = _; rw [HTE.out]; exact List.all_eq_true.1 HRA.out _ (List.getElem_mem hlt)
          have HD : Hid (r.take (k + 1) = r.take k ++ [t]) := by show _ = _; rw [List.take_succ_eq_append_getElem hlt, HTE.out]
          obtain ⟨V, hV⟩ : ∃ V, V = wr.alloc (.cells #[.int .i64 t.kd, .slice p0 t.path.length m0, .int .i64 t.pl, .string t.nm, .string t.tn, .int .i64 t.sh.kd, .slice p1 n1 m1, .slice p2 n2 m2, .slice p3 n3 m3, .int .i64 t.ws.kd, .slice q1 i1 j1, .slice q2 i2 j2, .slice q3 i3 j3] 33) := ⟨_, rfl⟩
          have hn0 : V.heap[wr.heap.size]? = some (.cells #[.int .i64 t.kd, .slice p0 t.path.length m0, .int .i64 t.pl, .string t.nm, .string t.tn, .int .i64 t.sh.kd, .slice p1 n1 m1, .slice p2 n2 m2, .slice p3 n3 m3, .int .i64 t.ws.kd, .slice q1 i1 j1, .slice q2 i2 j2, .slice q3 i3 j3] 33 (0, 0)) := by rw [hV]; exact Go.Deep.blk_alloc_new _ _
          have hbv : Below wr.heap.size wr V := by rw [hV]; exact below_alloc _ _
          have HV := Lib.hid hV
          have HN0 := Lib.hid hn0
          have HBV := Lib.hid hbv
          clear hV hn0 hbv
          go_upto_region 13 with fail
          rw [← HV.out]
          clear k0 k1 k2 k3 k4 k5 k6 k7 k8 k9 k10 k11 k12
          have a0 := cel HN0.out 0 rfl
          have a1 := cel HN0.out 1 rfl
          have a2 := cel HN0.out 2 rfl
          have a3 := cel HN0.out 3 rfl
          have a4 := cel HN0.out 4 rfl
          have a5 := cel HN0.out 5 rfl
          have a6 := cel HN0.out 6 rfl
          have a7 := cel HN0.out 7 rfl
          have a8 := cel HN0.out 8 rfl
          have a9 := cel HN0.out 9 rfl
          have a10 := cel HN0.out 10 rfl
          have a11 := cel HN0.out 11 rfl
          have a12 := cel HN0.out 12 rfl
          go_wp2_with fail
          refine (copied_is t _ V OK.out (KT.out.keep (Keeps.of_below HBV.out))).mono ?_
          rintro e w3 ⟨v3, F3, rfl, ho, hn, hb3⟩
          obtain ⟨e0, e1, e2, e3, e4, e5, e6, e7, e8, e9, e10, e11, e12, e13, e14, e15, e16, e17, e18, e19, rfl, _, _, _, _, _, _, _⟩ := ho.is
          have HI1 := Lib.hid (HI.out.below HBV.out)
          have HI2 := Lib.hid (HI1.out.below hb3)
          have HB3 := Lib.hid (HBR.out.trans ((HBV.out.trans (hb3.mono HBV.out.size)).mono HBR.out.size))
          have HO := Lib.hid ho
          have HN := Lib.hid hn
          have ZW := Lib.hid HI1.out.2.2.2.2.size
          have HDJ : Hid (∀ g ∈ F3, g ∉ blkOf (.slice p n cap) ∧ g ∉ F) := fun g hg => by
            have q := (OwnEd.blocks ho g hg).1
            exact ⟨fun hm => by have := (blkOf_own HI1.out.2.1 g hm).2; omega, fun hm => by have := (HI1.out.2.2.1.lt g hm).2; omega⟩
          have hnl : n ≤ 4000000 := by have := HI1.out.1; rw [this]; simp; have := HRL.out; omega
          have HNL := Lib.hid hnl
          clear hb3 ho hn hnl a0 a1 a2 a3 a4 a5 a6 a7 a8 a9 a10 a11 a12
          go_wp2_with (at_builtin; go_must (refine wpList_ed w3 rfl (.tmp 28) (.tmp 31) rfl w2.heap.size p n cap cs _ _ _ _ _ _ _ _ _ _ _ _ _ _ _ _ _ _ _ _ _ _ _ _ _ _ _ rfl HI2.out.2.1 rfl HNL.out HI2.out.2.2.2.2.size ?_))
          intro p' cap' w4 hv hy hq
          have HP := Lib.hid (eds_push HI2.out HO.out HN.out ZW.out HDJ.out hv hy hq)
          rw [← HD.out] at HP
          clear hv hy hq
          go_wp2_with fail
          go_roundw
          case rel => exact ⟨k + 1, p', n + 1, cap', _, _, HLT.out, by go_num, rfl, HP.out⟩
          case measure => simp [intOf]; have := HLT.out; omega
        · obtain rfl : k = r.length := by omega
          have HI0 : Hid (EdsInv w wr r p n cap cs F) := by have := HI.out; rw [List.take_length] at this; exact eds_low this HB2.out
          go_wp2_with fail
          go_ret
          exact ⟨p, n, cap, cs, F, rfl, HI0.out⟩
end Go.Proofs.YtfdhmkmeffgkgaaDoor
