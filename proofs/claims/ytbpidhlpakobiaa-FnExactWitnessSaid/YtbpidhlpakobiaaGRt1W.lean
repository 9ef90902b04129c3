/- Walks: the closures that tell what can not be read. -/
import Derived.Test.YtbpidhlpakobiaaGRdaP
import Derived.Test.YtbpidhlpakobiaaGBlank2W
namespace Go.Proofs.Ytbpidhlpakobiaa
open Go.RowKit

set_option maxRecDepth 100000 in
set_option maxHeartbeats 1000000 in
theorem allRead_any (w : World) : Calls Try.prog 59 #[] w (WnPost none w) := by
  obtain ⟨W, hW⟩ : ∃ W, W = w.alloc (.cells #[.int .i64 0, .int .i64 0, .string ⟨#[]⟩, .slice none 0 0] 35) := ⟨_, rfl⟩
  have BW : Hid (Below w.heap.size w W) := by show Below _ _ _; rw [hW]; exact below_alloc _ _
  have HW := Lib.hid hW
  clear hW
  go_enter Try.func59, Try.ntmps59
  go_wp2_with fail
  refine bodyPost_ret (v := .tuple #[.agg #[.int .i64 0, .int .i64 0, .string ⟨#[]⟩, .slice none 0 0], .bool false]) (by simp [results, Try.results59, go_sem]) rfl ?_
  rw [← HW.out]
  exact wn_at (U := none) BW.out (own_zva _ _) List.nodup_nil

set_option maxRecDepth 100000 in
set_option maxHeartbeats 1000000 in
theorem unwrap2_any (w : World) : Calls Try.prog 50 #[] w (WnPost (some (.mk 5 0 ⟨#[]⟩ [])) w) := by
  obtain ⟨W, hW⟩ : ∃ W, W = w.alloc (.cells #[.int .i64 5, .int .i64 0, .string ⟨#[]⟩, .slice none 0 0] 35) := ⟨_, rfl⟩
  have BW : Hid (Below w.heap.size w W) := by show Below _ _ _; rw [hW]; exact below_alloc _ _
  have HW := Lib.hid hW
  clear hW
  go_enter Try.func50, Try.ntmps50
  go_wp2_with fail
  refine bodyPost_ret (v := .tuple #[.agg #[.int .i64 5, .int .i64 0, .string ⟨#[]⟩, .slice none 0 0], .bool true]) (by simp [results, Try.results50, go_sem]) rfl ?_
  refine wn_at (U := some (.mk 5 0 ⟨#[]⟩ [])) ?_ (own_leaf (by unfold InI64'; omega) (by unfold InI64'; omega) (by decide)) List.nodup_nil
  exact below_alloc _ _

set_option maxRecDepth 100000 in
set_option maxHeartbeats 1000000 in
theorem other2_any (d : Nat) (hd : d ≤ 5) (s : Sh) (b : Nat) (c0 c1 c2 c3 : Value) (w : World) (hb : w.heap[b]? = some (.cells #[c0, c1, c2, c3] 30 (0, 0))) (hp : partOk d s = true) (hs : IsSh w s (.agg #[c0, c1, c2, c3])) :
    Calls Try.prog 52 #[.pointer (some ⟨b, 0, none⟩)] w (WnPost (some (blankB s)) w) := by
  obtain ⟨p1, n1, m1, p2, n2, m2, p3, n3, m3, rfl, rfl, rfl, rfl⟩ := hs.cells
  obtain ⟨W, hW⟩ : ∃ W, W = w.alloc (.cells #[.int .i64 0, .int .i64 0, .string ⟨#[]⟩, .slice none 0 0] 35) := ⟨_, rfl⟩
  have hbw : Below w.heap.size w W := by rw [hW]; exact below_alloc _ _
  have BW := Lib.hid hbw
  have R1 : Hid (W.heap[w.heap.size]? = some (.cells #[.int .i64 0, .int .i64 0, .string ⟨#[]⟩, .slice none 0 0] 35 (0, 0))) := by show _ = _; rw [hW]; exact Go.Deep.blk_alloc_new _ _
  obtain ⟨x0, x1, x2, x3, _, _, _, _, xz⟩ := blk4 hb
  have HS := Lib.hid (IsSh.keep (Keeps.of_below hbw) _ _ hs)
  have HP := Lib.hid hp
  have HW := Lib.hid hW
  clear hb hbw hW hs hp
  go_enter Try.func52, Try.ntmps52
  go_wp2_with fail
  rw [← HW.out]
  refine (bi_any d hd s _ W HP.out HS.out).mono ?_
  rintro e w1 ⟨c0, c1, c2, c3, F, rfl, ho1, hn1, hb1⟩
  have lt := OwnVa.blocks _ _ _ ho1
  obtain ⟨r3, z3, rfl, rfl, rfl, rfl⟩ := (OwnVa.is _ _ _ ho1).cells
  have HO := Lib.hid ho1
  have HN := Lib.hid hn1
  have HL := Lib.hid lt
  have hz := (blk4 R1.out).2.2.2.2.2.2.2.2
  have B1 := Lib.hid (BW.out.trans (hb1.mono BW.out.size))
  obtain ⟨y0, y1, y2, y3, _, _, _, _, yz⟩ := blk4 (blk_below R1.out hb1 hz)
  obtain ⟨X, hX⟩ : ∃ X, X = blankB s := ⟨_, rfl⟩
  have HX := Lib.hid hX
  clear ho1 hn1 hb1 lt x0 x1 x2 x3 xz
  go_wp2_with fail
  refine bodyPost_ret (v := .tuple #[.agg #[.int .i64 (blankB s).kd, .int .i64 (blankB s).nn, .string (blankB s).tx, .slice r3 (blankB s).it.length z3], .bool true]) (by simp [results, Try.results52, go_sem, y0, y1, y2, y3]) rfl ?_
  exact wn_end (U := some (blankB s)) B1.out (Nat.le_refl _) (OwnVa.move (Nat.le_of_lt hz) _ _ _ (fun _ _ => rfl) HO.out) (fun g hg => by have := HL.out g hg; omega) HN.out

theorem pickW_drop {wr kn : List ByteArray} {k : Nat} (h : k < wr.length) (hk : hasB kn wr[k] = true) : pickW (wr.drop k) kn = pickW (wr.drop (k + 1)) kn := by
  rw [List.drop_eq_getElem_cons h]; unfold pickW; rw [List.find?_cons]; simp [hk]
theorem pickW_at {wr kn : List ByteArray} {k : Nat} (h : k < wr.length) (hk : hasB kn wr[k] = false) : pickW (wr.drop k) kn = some (.mk 4 0 wr[k] []) := by
  rw [List.drop_eq_getElem_cons h]; unfold pickW; rw [List.find?_cons]; simp [hk]

set_option maxRecDepth 100000 in
set_option maxHeartbeats 1000000 in
theorem pick2_any (wr kn : List ByteArray) (b1 b2 : Nat) (v1 v2 : Value) (w : World) (T1 T2 : TypeId) (h1 : w.heap[b1]? = some (.cells #[v1] T1 (0, 0))) (h2 : w.heap[b2]? = some (.cells #[v2] T2 (0, 0))) (s1 : IsStrs w v1 wr) (s2 : IsStrs w v2 kn) (h8 : ∀ s ∈ wr, s.size ≤ 8) :
    Calls Try.prog 57 #[.pointer (some ⟨b1, 0, none⟩), .pointer (some ⟨b2, 0, none⟩)] w (WnPost (pickW wr kn) w) := by
  obtain ⟨W, hW⟩ : ∃ W, W = w.alloc (.cells #[.int .i64 0, .int .i64 0, .string ⟨#[]⟩, .slice none 0 0] 35) := ⟨_, rfl⟩
  have hbw : Below w.heap.size w W := by rw [hW]; exact below_alloc _ _
  have BW := Lib.hid hbw
  have R1 : Hid (W.heap[w.heap.size]? = some (.cells #[.int .i64 0, .int .i64 0, .string ⟨#[]⟩, .slice none 0 0] 35 (0, 0))) := by show _ = _; rw [hW]; exact Go.Deep.blk_alloc_new _ _
  have K2 := Lib.hid (s2.keep (Keeps.of_below hbw))
  obtain ⟨sl1, sl2, a, cap, rfl, sl3, sl4, sl6⟩ := s1.keep (Keeps.of_below hbw)
  obtain ⟨x0, _, xz⟩ := blk1r h1
  obtain ⟨y0, _, yz⟩ := blk1r h2
  obtain ⟨y0', _, yz'⟩ := blk1r (blk_below h2 hbw yz)
  have H6 := Lib.hid sl6
  have H8 := Lib.hid h8
  have HW := Lib.hid hW
  obtain ⟨R, hR⟩ : ∃ R, pickW wr kn = R := ⟨_, rfl⟩
  rw [hR]
  have HR : Hid (pickW (wr.drop 0) kn = R) := hR
  obtain ⟨p2, n2, m2, rfl⟩ := s2.slice
  clear hbw hW s1 s2 sl6 h8 h1 h2 sl2 hR
  go_enter Try.func57, Try.ntmps57
  go_wp2_with fail
  rw [← HW.out]
  clear x0 y0
  go_loop [8] (fun i => ∃ k : Nat, k ≤ wr.length ∧ i = .int .i64 k ∧ Hid (pickW (wr.drop k) kn = R)) (fun i => wr.length - (intOf i).toNat)
  case atStart => exact ⟨0, Nat.zero_le _, rfl, HR.out⟩
  case round =>
    obtain ⟨k, hk, rfl, HK⟩ := hrel
    by_cases hlt : k < wr.length
    · obtain ⟨b, off, rfl, hc⟩ := IsStrs.at H6.out hlt
      have HS := Lib.hid (H8.out wr[k] (List.getElem_mem hlt))
      cases hhas : hasB kn wr[k]
      · have HP := Lib.hid ((pickW_at hlt hhas).symm.trans HK.out)
        have HH := Lib.hid hhas
        clear hhas
        go_wp2_with fail
        refine (contains_is _ kn wr[k] false HH.out W K2.out).mono ?_
        rintro e w1 ⟨rfl, rfl⟩
        go_wp2_with fail
        refine (clone_any wr[k] _ (by have := HS.out; omega)).mono ?_
        rintro e w2 ⟨rfl, hb2⟩
        obtain ⟨r0, r1, r2, r3, _, _, _, _, rz⟩ := blk4 (blk_below R1.out hb2 (blk4 R1.out).2.2.2.2.2.2.2.2)
        have B2 := Lib.hid (BW.out.trans (hb2.mono BW.out.size))
        clear hb2
        go_wp2_with fail
        refine bodyPost_ret (v := .tuple #[.agg #[.int .i64 4, .int .i64 0, .string wr[k], .slice none 0 0], .bool true]) (by simp [results, Try.results57, go_sem, r0, r1, r2, r3]) rfl ?_
        rw [← HP.out]
        exact wn_end (U := some (.mk 4 0 wr[k] [])) B2.out (Nat.le_refl _) (own_leaf (by unfold InI64'; omega) (by unfold InI64'; omega) (by have := HS.out; omega)) (by simp) List.nodup_nil
      · have HP := Lib.hid ((pickW_drop hlt hhas).symm.trans HK.out)
        have HH := Lib.hid hhas
        clear hhas
        go_wp2_with fail
        refine (contains_is _ kn wr[k] true HH.out W K2.out).mono ?_
        rintro e w1 ⟨rfl, rfl⟩
        go_wp2_with fail
        go_round
        case rel => exact ⟨k + 1, hlt, by go_num, HP.out⟩
        case measure => simp [intOf]; omega
    · obtain rfl : k = wr.length := by omega
      have HP : Hid (none = R) := by show _ = _; rw [← HK.out, List.drop_length]; rfl
      go_wp2_with fail
      refine (allRead_any W).mono ?_
      rintro e w2 ⟨c0, c1, c2, c3, F, rfl, ho2, hn2, hb2⟩
      obtain ⟨r3', z3, rfl, rfl, rfl, rfl⟩ := (OwnVa.is _ _ _ ho2).cells
      have lt := Lib.hid (OwnVa.blocks _ _ _ ho2)
      have HO := Lib.hid ho2
      have HN := Lib.hid hn2
      have wz := (blk4 R1.out).2.2.2.2.2.2.2.2
      obtain ⟨r0, r1, r2, r3, _, _, _, _, rz⟩ := blk4 (blk_below R1.out hb2 wz)
      have B2 := Lib.hid (BW.out.trans (hb2.mono BW.out.size))
      clear hb2 ho2 hn2
      go_wp2_with fail
      refine bodyPost_ret (v := .tuple #[.agg #[.int .i64 zva.kd, .int .i64 zva.nn, .string zva.tx, .slice r3' zva.it.length z3], .bool false]) (by simp [results, Try.results57, go_sem, r0, r1, r2, r3]) rfl ?_
      rw [← HP.out]
      exact wn_end (U := none) B2.out (Nat.le_refl _) (OwnVa.move (Nat.le_of_lt wz) _ _ _ (fun _ _ => rfl) HO.out) (fun g hg => by have := lt.out g hg; omega) HN.out
end Go.Proofs.Ytbpidhlpakobiaa
