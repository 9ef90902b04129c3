/- Walks: spec.l05Witness, at words. -/
import Derived.Test.YtbpidhlpakobiaaGSw1W
import Derived.Test.YtbpidhlpakobiaaGSc2W
namespace Go.Proofs.Ytbpidhlpakobiaa
open Go.RowKit

set_option maxRecDepth 100000 in
set_option maxHeartbeats 1000000 in
theorem sw_pick (n : Nat) (w : World) (wt rt : Sh) (y : Va) (sy kn : List ByteArray) (p1 p2 p3 q1 q2 q3 : Option Addr) (n2 n3 m1 m2 m3 i2 i3 j1 j2 j3 : Nat) (hk : wt.kd = 4) (hk' : rt.kd = 4) (hsy : wt.sy = sy) (hkn : rt.sy = kn) (hs1 : IsStrs w (.slice p1 sy.length m1) sy) (hs2 : IsStrs w (.slice q1 kn.length j1) kn) (h8 : ∀ s ∈ sy, s.size ≤ 8) (hx : wnB (n + 1) wt rt = some y) :
    Calls Try.prog 26 #[.agg #[.int .i64 4, .slice p1 sy.length m1, .slice p2 n2 m2, .slice p3 n3 m3], .agg #[.int .i64 4, .slice q1 kn.length j1, .slice q2 i2 j2, .slice q3 i3 j3]] w (ToVPost y w) := by
  have hU := (wn_pick (n := n) (w := wt) (r := rt) hk hk').symm.trans hx
  rw [hsy, hkn] at hU
  have HR : Hid (pickW (sy.drop 0) kn = some y) := hU
  have HS2 := Lib.hid hs2
  obtain ⟨h1, h2, a, cap, he, h3, h4, h6⟩ := hs1
  simp only [Value.slice.injEq] at he
  obtain ⟨rfl, _, rfl⟩ := he
  have H6 := Lib.hid h6
  have H8 := Lib.hid h8
  have HN := three_new w (.cells #[.int .i64 4, .slice p1 sy.length m1, .slice p2 n2 m2, .slice p3 n3 m3] 30) (.cells #[.int .i64 4, .slice q1 kn.length j1, .slice q2 i2 j2, .slice q3 i3 j3] 30) (.cells #[.int .i64 0, .int .i64 0, .string ⟨#[]⟩, .slice none 0 0] 35)
  obtain ⟨W0, hW0⟩ : ∃ W0, W0 = ((w.alloc (.cells #[.int .i64 4, .slice p1 sy.length m1, .slice p2 n2 m2, .slice p3 n3 m3] 30)).alloc (.cells #[.int .i64 4, .slice q1 kn.length j1, .slice q2 i2 j2, .slice q3 i3 j3] 30)).alloc (.cells #[.int .i64 0, .int .i64 0, .string ⟨#[]⟩, .slice none 0 0] 35) := ⟨_, rfl⟩
  have hb0 : Below w.heap.size w W0 := by rw [hW0]; exact ((below_alloc w _).alloc (by simp) _).alloc (by simp; omega) _
  have hz0 : W0.heap.size = w.heap.size + 1 + 1 + 1 := by rw [hW0]; simp
  rw [← hW0] at HN
  obtain ⟨W, hW⟩ : ∃ W, W = W0.alloc (.cells #[.int .i64 4, .int .i64 0, .string ⟨#[]⟩, .slice none 0 0] 35) := ⟨_, rfl⟩
  have hbW : Below W0.heap.size W0 W := by rw [hW]; exact below_alloc _ _
  have N1 := Lib.hid (blk_below HN.1 hbW (by omega))
  have N2 := Lib.hid (blk_below HN.2.1 hbW (by omega))
  have N3 := Lib.hid (blk_below HN.2.2 hbW (by omega))
  have N4 : Hid (W.heap[w.heap.size + 1 + 1 + 1]? = some (.cells #[.int .i64 4, .int .i64 0, .string ⟨#[]⟩, .slice none 0 0] 35 (0, 0))) := by show _ = _; rw [hW, ← hz0]; exact Go.Deep.blk_alloc_new _ _
  have hbw := hb0.trans (hbW.mono hb0.size)
  have BW := Lib.hid hbw
  have hz : W.heap.size = w.heap.size + 1 + 1 + 1 + 1 := by rw [hW]; simp; omega
  have HZ := Lib.hid hz
  have HW : Hid (W = (((w.alloc (.cells #[.int .i64 4, .slice p1 sy.length m1, .slice p2 n2 m2, .slice p3 n3 m3] 30)).alloc (.cells #[.int .i64 4, .slice q1 kn.length j1, .slice q2 i2 j2, .slice q3 i3 j3] 30)).alloc (.cells #[.int .i64 0, .int .i64 0, .string ⟨#[]⟩, .slice none 0 0] 35)).alloc (.cells #[.int .i64 4, .int .i64 0, .string ⟨#[]⟩, .slice none 0 0] 35)) := by show _ = _; rw [hW, hW0]
  clear HN hbw hz hW hW0 hb0 hbW hz0 hk hk' hsy hkn hU hs2 h6 h2 h8 hx
  go_enter Try.func26, Try.ntmps26
  go_wp2_with fail
  rw [← HW.out]
  go_loopw [6] (fun i wr => ∃ k : Nat, k ≤ sy.length ∧ i = .int .i64 k ∧ Hid (Below W.heap.size W wr) ∧ Hid (pickW (sy.drop k) kn = some y)) (fun i _ => sy.length - (intOf i).toNat)
  case atStart => exact ⟨0, Nat.zero_le _, rfl, Below.refl _ _, HR.out⟩
  case round =>
    obtain ⟨k, hk, rfl, HB, HK⟩ := hrel
    have Bw := Lib.hid (BW.out.trans (HB.out.mono BW.out.size))
    have hz := HZ.out
    obtain ⟨x0, x1, x2, x3, _, _, _, _, xz⟩ := blk4 (blk_below N1.out HB.out (by omega))
    obtain ⟨y0, y1, y2, y3, _, _, _, _, yz⟩ := blk4 (blk_below N2.out HB.out (by omega))
    by_cases hlt : k < sy.length
    · obtain ⟨b, off, rfl, hc⟩ := IsStrs.at H6.out hlt
      have hc' := Keeps.of_below Bw.out _ _ _ hc
      have HSK : Hid (∀ w', Below wr.heap.size wr w' → (w'.cell? ⟨w.heap.size, 1, none⟩ = some (.slice (some ⟨b, off, none⟩) sy.length m1) ∧ w'.cell? ⟨w.heap.size + 1, 1, none⟩ = some (.slice q1 kn.length j1) ∧ w'.cell? ⟨b, off + k, none⟩ = some (.string sy[k]))) := fun w' hb =>
        ⟨Keeps.of_below hb _ _ _ x1, Keeps.of_below hb _ _ _ y1, Keeps.of_below hb _ _ _ hc'⟩
      obtain ⟨p, hp⟩ : ∃ p, posOf kn sy[k] = p := ⟨_, rfl⟩
      have HP := Lib.hid hp
      have HS := Lib.hid (H8.out sy[k] (List.getElem_mem hlt))
      clear hc hp
      go_upto_region 10 with fail
      go_region_held3 (fun w' => w'.cell? ⟨w.heap.size, 1, none⟩ = some (.slice (some ⟨b, off, none⟩) sy.length m1) ∧ w'.cell? ⟨w.heap.size + 1, 1, none⟩ = some (.slice q1 kn.length j1) ∧ w'.cell? ⟨b, off + k, none⟩ = some (.string sy[k]))
        (first
          | exact HSK.out _ (Below.refl _ wr).drew)
        (first
          | (go_at_call 33; refine (at_is _ kn sy[k] p HP.out wr.drew (HS2.out.keep (Keeps.of_below Bw.out.drew))).mono ?_; rintro e w' ⟨rfl, rfl⟩))
      all_goals
        have HB2 : Hid (Below W.heap.size W wr.drew) := HB.out.drew
        by_cases hpn : p < 0
        · have hno : hasB kn sy[k] = false := by unfold hasB; rw [HP.out]; simpa using hpn
          have HF : Hid (.mk 4 0 sy[k] [] = y) := Option.some.inj ((pickW_at hlt hno).symm.trans HK.out)
          have V4 := blk_below N4.out HB.out (by omega)
          have R4 := blk_below N3.out HB.out (by omega)
          have V5 := blk_set (w := wr.drew) V4 2 (.string sy[k])
          have R5 := blk_other (w := wr.drew) R4 (show w.heap.size + 1 + 1 ≠ w.heap.size + 1 + 1 + 1 by omega) (i := 2) (.string sy[k])
          obtain ⟨w5, hw5⟩ : ∃ w5, w5 = wr.drew.setCell ⟨w.heap.size + 1 + 1 + 1, 2, none⟩ (.string sy[k]) := ⟨_, rfl⟩
          have HB5 : Hid (Below w.heap.size w w5) := by show Below _ _ _; rw [hw5]; exact Bw.out.drew.setCell (p := ⟨w.heap.size + 1 + 1 + 1, 2, none⟩) (by show _ ≤ w.heap.size + 1 + 1 + 1; omega) _
          rw [← hw5] at V5 R5
          obtain ⟨v0, v1, v2, v3, f0, f1, f2, f3, vz⟩ := blk4 V4
          obtain ⟨u0, u1, u2, u3, _, _, _, _, uz⟩ := blk4 R4
          obtain ⟨r0, r1, r2, r3, _, _, _, _, rz⟩ := blk4 R5
          have HW5 := Lib.hid hw5
          clear hno V4 R4 V5 R5 hw5
          go_wp2_with fail
          refine bodyPost_ret (v := .agg #[.int .i64 4, .int .i64 0, .string sy[k], .slice none 0 0]) (by simp [results, Try.results26, go_sem, u0, u1, u2, u3]) rfl ?_
          rw [← HF.out]
          have h' := va_end (x := .mk 4 0 sy[k] []) (b := w.heap.size + 1 + 1) HB5.out (by omega) (own_leaf (by unfold InI64'; omega) (by unfold InI64'; omega) (by have := HS.out; omega)) (by simp) List.nodup_nil
          rw [HW5.out] at h'
          exact h'
        · have hyes : hasB kn sy[k] = true := by unfold hasB; rw [HP.out]; simpa using hpn
          have HF := Lib.hid ((pickW_drop hlt hyes).symm.trans HK.out)
          clear hyes
          go_wp2_with fail
          go_roundw
          case rel => exact ⟨k + 1, hlt, by go_num, HB2.out, HF.out⟩
          case measure => simp [intOf]; omega
    · obtain rfl : k = sy.length := by omega
      exact absurd HK.out (by rw [List.drop_length]; unfold pickW; simp)
end Go.Proofs.Ytbpidhlpakobiaa
