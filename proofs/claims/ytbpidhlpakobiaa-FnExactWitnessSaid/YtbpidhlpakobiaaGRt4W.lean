/- Walks: the closures that tell what can not be read, of a record. -/
import Derived.Test.YtbpidhlpakobiaaGRt1W
namespace Go.Proofs.Ytbpidhlpakobiaa
open Go.RowKit

set_option maxRecDepth 100000 in
set_option maxHeartbeats 1000000 in
theorem rec2_any (X : Nat → Prop) (L : List (Option Va)) (b : Nat) (aa : Option Addr) (cc : Nat) (T : TypeId) (w : World) (h1 : w.heap[b]? = some (.cells #[.slice aa L.length cc] T (0, 0))) (hcc : L.length ≤ cc ∧ cc ≤ 9223372036854775807)
    (hrow : ∀ i (h : i < L.length), ∃ (g off : Nat), aa = some ⟨g, off, none⟩ ∧ ∃ (f1 : FuncId) (c1 : Array Value) (f2 : FuncId) (c2 : Array Value), w.cell? ⟨g, off + i * 2, none⟩ = some (fnv f1 c1) ∧ w.cell? ⟨g, off + i * 2 + 1, none⟩ = some (fnv f2 c2) ∧ Tells X w L[i] f2 c2) :
    Calls Try.prog 66 #[.pointer (some ⟨b, 0, none⟩)] w (WnPost (firstW L) w) := by
  obtain ⟨W, hW⟩ : ∃ W, W = w.alloc (.cells #[.int .i64 0, .int .i64 0, .string ⟨#[]⟩, .slice none 0 0] 35) := ⟨_, rfl⟩
  have hbw : Below w.heap.size w W := by rw [hW]; exact below_alloc _ _
  have BW := Lib.hid hbw
  have R1 : Hid (W.heap[w.heap.size]? = some (.cells #[.int .i64 0, .int .i64 0, .string ⟨#[]⟩, .slice none 0 0] 35 (0, 0))) := by show _ = _; rw [hW]; exact Go.Deep.blk_alloc_new _ _
  obtain ⟨x0, _, xz⟩ := blk1r h1
  obtain ⟨R, hR⟩ : ∃ R, firstW L = R := ⟨_, rfl⟩
  rw [hR]
  have HR : Hid (firstW (L.drop 0) = R) := hR
  have HRow := Lib.hid hrow
  have HW := Lib.hid hW
  clear hbw hW h1 hrow hR
  go_enter Try.func66, Try.ntmps66
  go_wp2_with fail
  rw [← HW.out]
  clear x0 xz
  have wz := (blk4 R1.out).2.2.2.2.2.2.2.2
  go_loopw [9] (fun i wr => ∃ j : Nat, j ≤ L.length ∧ i = .int .i64 j ∧ Hid (Below W.heap.size W wr) ∧ Hid (firstW (L.drop j) = R)) (fun i _ => L.length - (intOf i).toNat)
  case atStart => exact ⟨0, Nat.zero_le _, rfl, Below.refl _ _, HR.out⟩
  case round =>
    obtain ⟨j, hj, rfl, HB, HJ⟩ := hrel
    have Bw := Lib.hid (BW.out.trans (HB.out.mono BW.out.size))
    have Rr := Lib.hid (blk_below R1.out HB.out wz)
    have rz := (blk4 Rr.out).2.2.2.2.2.2.2.2
    by_cases hlt : j < L.length
    · obtain ⟨g, off, rfl, f1, c1, f2, c2, k0, k1, hE, hC⟩ := HRow.out j hlt
      have e0 : wr.cell? ⟨g, off + j * 2, none⟩ = some (.func (.func f1) #[] c1) := Keeps.of_below Bw.out _ _ _ k0
      have e1 : wr.cell? ⟨g, off + j * 2 + 1, none⟩ = some (.func (.func f2) #[] c2) := Keeps.of_below Bw.out _ _ _ k1
      obtain ⟨W1, hW1⟩ : ∃ W1, W1 = wr.alloc (.cells #[.func (.func f1) #[] c1, .func (.func f2) #[] c2] 49) := ⟨_, rfl⟩
      have hb1 : Below wr.heap.size wr W1 := by rw [hW1]; exact below_alloc _ _
      obtain ⟨U, hU⟩ : ∃ U, L[j] = U := ⟨_, rfl⟩
      rw [hU] at hC
      have HCall := Lib.hid (hC W1 (Still.of_below (Bw.out.trans (hb1.mono Bw.out.size))))
      have HB1 := Lib.hid hb1
      have HW1 := Lib.hid hW1
      have HU := Lib.hid hU
      unfold Enters at hE
      clear k0 k1 hC hW1 hb1 hU
      go_wp2_with fail
      rw [← HW1.out]
      refine HCall.out.mono ?_
      rintro e w2 ⟨d0, d1, d2, d3, F, rfl, ho2, hn2, hb2⟩
      obtain ⟨r3, z3, rfl, rfl, rfl, rfl⟩ := (OwnVa.is _ _ _ ho2).cells
      have hb12 := HB1.out.trans (hb2.mono HB1.out.size)
      have B2 := Lib.hid (Bw.out.trans (hb12.mono Bw.out.size))
      have lt := OwnVa.blocks _ _ _ ho2
      clear e0 e1 hE
      cases U with
      | none =>
        have HN := Lib.hid ((first_none hlt HU.out).symm.trans HJ.out)
        have HB3 : Hid (Below W.heap.size W (w2.alloc (.cells #[.int .i64 zva.kd, .int .i64 zva.nn, .string zva.tx, .slice r3 zva.it.length z3] 35))) := by
          have h2 := HB.out.trans (hb12.mono HB.out.size)
          exact h2.trans ((below_alloc w2 _).mono h2.size)
        clear ho2 hn2 hb2 hb12 lt
        go_wp2_with fail
        go_roundw
        case rel => exact ⟨j + 1, hlt, by go_num, HB3.out, HN.out⟩
        case measure => simp [intOf]; omega
      | some x =>
        have HN := Lib.hid ((first_some hlt HU.out).symm.trans HJ.out)
        have hgd : (some x : Option Va).getD zva = x := rfl
        simp only [hgd] at ho2 ⊢
        have hs1 := HB1.out.size
        have ho3 : OwnVa (w2.alloc (.cells #[.int .i64 x.kd, .int .i64 x.nn, .string x.tx, .slice r3 x.it.length z3] 35)) w.heap.size x (.agg #[.int .i64 x.kd, .int .i64 x.nn, .string x.tx, .slice r3 x.it.length z3]) F := OwnVa.move (by omega) _ _ _ (fun g hg => (below_alloc w2 _).block g (lt g hg).2) ho2
        have HO := Lib.hid ho3
        have HNd := Lib.hid hn2
        have HF : Hid (∀ q ∈ F, q ≠ w.heap.size) := fun q hq => by have := lt q hq; omega
        obtain ⟨r0, r1, r2, rr3, _, _, _, _, rz2⟩ := blk4 (blk_below Rr.out hb12 rz)
        clear ho2 hn2 hb2 hb12 lt ho3
        go_wp2_with fail
        refine bodyPost_ret (v := .tuple #[.agg #[.int .i64 x.kd, .int .i64 x.nn, .string x.tx, .slice r3 x.it.length z3], .bool true]) (by simp [results, Try.results66, go_sem, r0, r1, r2, rr3, rz2]) rfl ?_
        have h' := wn_end (U := some x) (B2.out.alloc B2.out.size (.cells #[.int .i64 x.kd, .int .i64 x.nn, .string x.tx, .slice r3 x.it.length z3] 35)) (Nat.le_refl _) HO.out HF.out HNd.out
        rw [putQ_alloc rz2] at h'
        rw [← HN.out]
        exact h'
    · obtain rfl : j = L.length := by omega
      have HN : Hid (none = R) := by show _ = _; rw [← HJ.out, List.drop_length]; rfl
      go_wp2_with fail
      refine (allRead_any wr).mono ?_
      rintro e w2 ⟨c0, c1, c2, c3, F, rfl, ho2, hn2, hb2⟩
      obtain ⟨r3', z3, rfl, rfl, rfl, rfl⟩ := (OwnVa.is _ _ _ ho2).cells
      have lt := Lib.hid (OwnVa.blocks _ _ _ ho2)
      have HO := Lib.hid ho2
      have HNd := Lib.hid hn2
      obtain ⟨r0, r1, r2, r3, _, _, _, _, rz2⟩ := blk4 (blk_below Rr.out hb2 rz)
      have B2 := Lib.hid (Bw.out.trans (hb2.mono Bw.out.size))
      clear hb2 ho2 hn2
      go_wp2_with fail
      refine bodyPost_ret (v := .tuple #[.agg #[.int .i64 zva.kd, .int .i64 zva.nn, .string zva.tx, .slice r3' zva.it.length z3], .bool false]) (by simp [results, Try.results66, go_sem, r0, r1, r2, r3]) rfl ?_
      rw [← HN.out]
      exact wn_end (U := none) B2.out (Nat.le_refl _) (OwnVa.move (Nat.le_of_lt rz) _ _ _ (fun _ _ => rfl) HO.out) (fun g hg => by have := lt.out g hg; omega) HNd.out
end Go.Proofs.Ytbpidhlpakobiaa
