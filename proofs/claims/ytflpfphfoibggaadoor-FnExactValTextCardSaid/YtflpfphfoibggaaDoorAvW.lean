/- Walks: impl.appendVal at the kinds that hold nothing. -/
import Derived.Test.YtflpfphfoibggaaDoorLayAI
import Derived.Test.YtflpfphfoibggaaDoorTaW
import Derived.Deep.RegionLaw
namespace Go.Proofs.YtflpfphfoibggaaDoor
open Go.RowKit

theorem ta_flag (v : Value) (w : World) : (Instr.typeAssert (.iface 126 v) 98 126 true).run Tryd.prog w = .ok (.tuple #[v, .bool true]) w := by
  simp [Instr.typeAssert, run_underlying Tryd.underlying126]
theorem ta_no_flag (T : Nat) (hT : T ≠ 126) (v : Value) (w : World) : (Instr.typeAssert (.iface T v) 98 126 true).run Tryd.prog w = .ok (.tuple #[.agg #[.int .i64 0, .slice none 0 0, .slice none 0 0, .slice none 0 0], .bool false]) w := by
  have hz : (zeroValue 126).run Tryd.prog w = .ok (.agg #[.int .i64 0, .slice none 0 0, .slice none 0 0, .slice none 0 0]) w := by kernel_rfl
  simp [Instr.typeAssert, run_underlying Tryd.underlying126, hT, hz]
theorem ta_num (v : Value) (w : World) : (Instr.typeAssert (.iface 127 v) 98 127 true).run Tryd.prog w = .ok (.tuple #[v, .bool true]) w := by
  simp [Instr.typeAssert, run_underlying Tryd.underlying127]
theorem ta_no_num (T : Nat) (hT : T ≠ 127) (v : Value) (w : World) : (Instr.typeAssert (.iface T v) 98 127 true).run Tryd.prog w = .ok (.tuple #[.agg #[.int .i64 0, .slice none 0 0, .slice none 0 0, .slice none 0 0], .bool false]) w := by
  have hz : (zeroValue 127).run Tryd.prog w = .ok (.agg #[.int .i64 0, .slice none 0 0, .slice none 0 0, .slice none 0 0]) w := by kernel_rfl
  simp [Instr.typeAssert, run_underlying Tryd.underlying127, hT, hz]
theorem ta_text (v : Value) (w : World) : (Instr.typeAssert (.iface 129 v) 98 129 true).run Tryd.prog w = .ok (.tuple #[v, .bool true]) w := by
  simp [Instr.typeAssert, run_underlying Tryd.underlying129]
theorem ta_no_text (T : Nat) (hT : T ≠ 129) (v : Value) (w : World) : (Instr.typeAssert (.iface T v) 98 129 true).run Tryd.prog w = .ok (.tuple #[.agg #[.int .i64 0, .slice none 0 0, .slice none 0 0, .slice none 0 0], .bool false]) w := by
  have hz : (zeroValue 129).run Tryd.prog w = .ok (.agg #[.int .i64 0, .slice none 0 0, .slice none 0 0, .slice none 0 0]) w := by kernel_rfl
  simp [Instr.typeAssert, run_underlying Tryd.underlying129, hT, hz]

/-- What an append to what the caller owns leaves. -/
def AvPost (w0 w : World) (l : List UInt8) (e : Ending) (w' : World) : Prop :=
  ∃ p n m, e = .returned (.slice p n m) ∧ OwnB w' w0.heap.size (.slice p n m) l ∧ Below w0.heap.size w0 w' ∧ w.heap.size ≤ w'.heap.size ∧ KeptO w w'

/-- The word of a flag. -/
def flagB (n : Int) : List UInt8 := if n = 0 then [110, 111] else [121, 101, 115]
theorem flagWord_is (n : Int) (w : World) : Calls Tryd.prog 99 #[.int .i64 n] w fun e w' => e = .returned (.string ⟨(flagB n).toArray⟩) ∧ w = w' := by
  by_cases h : n = 0
  · subst h
    have HR : Hid ((⟨(flagB 0).toArray⟩ : ByteArray) = ⟨#[110, 111]⟩) := rfl
    rw [HR.out]
    go_enter Tryd.func99, Tryd.ntmps99
    go_wp2_with fail
    go_ret
    exact ⟨rfl, rfl⟩
  · have HR : Hid ((⟨(flagB n).toArray⟩ : ByteArray) = ⟨#[121, 101, 115]⟩) := by show _ = _; unfold flagB; rw [if_neg h]
    rw [HR.out]
    have hb : (n == 0) = false := by rw [beq_eq_false_iff_ne]; exact h
    clear h
    go_enter Tryd.func99, Tryd.ntmps99
    go_wp2_with fail
    go_ret
    exact ⟨rfl, rfl⟩
theorem flagB_len (n : Int) : (flagB n).length ≤ 3 := by unfold flagB; split <;> simp

set_option maxRecDepth 100000 in
set_option maxHeartbeats 2000000 in
theorem av_flag (w0 w : World) (v : Value) (l : List UInt8) (p1 p2 p3 p4 : Option Addr) (n1 n2 n3 n4 m1 m2 m3 m4 : Nat) (n : Int) (t : ByteArray)
    (hb : Below w0.heap.size w0 w) (ho : OwnB w w0.heap.size v l) (hl : l.length + 100 ≤ 1099511627776) :
    Calls Tryd.prog 74 #[v, .agg #[.int .i64 1, .slice p1 n1 m1, .slice p2 n2 m2, .slice p3 n3 m3], .agg #[.int .i64 1, .int .i64 n, .string t, .slice p4 n4 m4]] w (AvPost w0 w (l ++ flagB n)) := by
  obtain ⟨p, nn, m, rfl⟩ := ho.slice
  obtain ⟨x0, x1⟩ := two_new w (.cells #[.int .i64 1, .slice p1 n1 m1, .slice p2 n2 m2, .slice p3 n3 m3] 26) (.cells #[.int .i64 1, .int .i64 n, .string t, .slice p4 n4 m4] 55)
  obtain ⟨W, hW⟩ : ∃ W, W = (w.alloc (.cells #[.int .i64 1, .slice p1 n1 m1, .slice p2 n2 m2, .slice p3 n3 m3] 26)).alloc (.cells #[.int .i64 1, .int .i64 n, .string t, .slice p4 n4 m4] 55) := ⟨_, rfl⟩
  have hbW : Below w.heap.size w W := by rw [hW]; exact (below_alloc w _).alloc (by simp) _
  rw [← hW] at x1
  have HW := Lib.hid hW
  have HO := Lib.hid (own_block (w' := W) ho fun g hg => hbW.block g (blkOf_own ho g hg).2)
  have HB := Lib.hid (hb.trans (hbW.mono hb.size))
  have HS := Lib.hid hbW.size
  have HK := Lib.hid (KeptO.below hbW)
  have X1 := Lib.hid x1
  have u0 := ta_flag
  clear x0 x1 hbW hW hb ho
  go_enter Tryd.func74, Tryd.ntmps74
  go_wp2_with fail
  rw [← HW.out]
  refine (kindOf_flag _ _ _ _ _ _ _ _ _ _).mono ?_
  rintro e w0' ⟨rfl, hb1⟩
  obtain ⟨w1, hw1⟩ : ∃ w1, w1 = w0'.alloc (.cells #[.int .i64 1, .slice p1 n1 m1, .slice p2 n2 m2, .slice p3 n3 m3] 126) := ⟨_, rfl⟩
  have hba : Below W.heap.size W w1 := by rw [hw1]; exact hb1.alloc hb1.size _
  have K1 := Lib.hid (show w1.heap[w0'.heap.size]? = some (.cells #[.int .i64 1, .slice p1 n1 m1, .slice p2 n2 m2, .slice p3 n3 m3] 126 (0, 0)) by rw [hw1]; exact Go.Deep.blk_alloc_new _ _)
  have HO1 := Lib.hid (own_block (w' := w1) HO.out fun g hg => hba.block g (blkOf_own HO.out g hg).2)
  have HB1 := Lib.hid (HB.out.trans (hba.mono HB.out.size))
  have HS1 := Lib.hid (Nat.le_trans HS.out hba.size)
  have HK1 := Lib.hid (HK.out.trans (KeptO.below hba))
  have V1 := Lib.hid (blk_below X1.out hba (blk4 X1.out).2.2.2.2.2.2.2.2)
  have HW1 := Lib.hid hw1
  clear hba hb1 hw1
  obtain ⟨v0, v1, v2, v3, _, _, _, _, vz⟩ := blk4 V1.out
  rw [HW1.out] at v0 v1 v2 v3
  have HFL := Lib.hid (flagB_len n)
  obtain ⟨fb, hfb⟩ : ∃ fb, fb = flagB n := ⟨_, rfl⟩
  have HFW := Lib.hid (flagWord_is n)
  rw [← hfb] at HFL HFW
  have HFB := Lib.hid hfb
  clear hfb
  go_wp2_with fail
  rw [← HW1.out]
  refine (HFW.out _).mono ?_
  rintro e w' ⟨rfl, rfl⟩
  go_wp2_with (at_builtin; go_must (refine wpList_strK w1 rfl (.tmp 19) (.tmp 22) rfl w0.heap.size (.slice p nn m) l ⟨fb.toArray⟩ rfl HO1.out rfl (by have := HFL.out; show _ + fb.toArray.size < _; rw [List.size_toArray]; omega) HB1.out.size ?_))
  intro v2' w2 hv2 hb2 hk2
  obtain ⟨q2, k2, m2', rfl⟩ := hv2.slice
  have HP2 : Hid (OwnB w2 w0.heap.size (.slice q2 k2 m2') (l ++ fb)) := by show OwnB _ _ _ _; simpa using hv2
  have HB2 := Lib.hid (hb2 _ _ HB1.out (Nat.le_refl _))
  have HZ2 := Lib.hid (Nat.le_trans HS1.out (hb2 0 _ (Below.refl _ _) (Nat.zero_le _)).size)
  have HK2 := Lib.hid (HK1.out.trans hk2.o)
  clear hv2 hb2 hk2
  go_wp2_with fail
  go_ret
  exact ⟨q2, k2, m2', rfl, by have h := HP2.out; rw [HFB.out] at h; exact h, HB2.out, HZ2.out, HK2.out⟩

set_option maxRecDepth 100000 in
set_option maxHeartbeats 2000000 in
theorem av_num (w0 w : World) (v : Value) (l : List UInt8) (p1 p2 p3 p4 : Option Addr) (n1 n2 n3 n4 m1 m2 m3 m4 : Nat) (q : Nat) (hq : q ≤ 1000000) (htab : TabAt w0.heap.size w0) (t : ByteArray)
    (hb : Below w0.heap.size w0 w) (ho : OwnB w w0.heap.size v l) (hl : l.length + 100 ≤ 1099511627776) :
    Calls Tryd.prog 74 #[v, .agg #[.int .i64 2, .slice p1 n1 m1, .slice p2 n2 m2, .slice p3 n3 m3], .agg #[.int .i64 2, .int .i64 q, .string t, .slice p4 n4 m4]] w (AvPost w0 w (l ++ decB q)) := by
  obtain ⟨p, nn, m, rfl⟩ := ho.slice
  obtain ⟨x0, x1⟩ := two_new w (.cells #[.int .i64 2, .slice p1 n1 m1, .slice p2 n2 m2, .slice p3 n3 m3] 26) (.cells #[.int .i64 2, .int .i64 q, .string t, .slice p4 n4 m4] 55)
  obtain ⟨W, hW⟩ : ∃ W, W = (w.alloc (.cells #[.int .i64 2, .slice p1 n1 m1, .slice p2 n2 m2, .slice p3 n3 m3] 26)).alloc (.cells #[.int .i64 2, .int .i64 q, .string t, .slice p4 n4 m4] 55) := ⟨_, rfl⟩
  have hbW : Below w.heap.size w W := by rw [hW]; exact (below_alloc w _).alloc (by simp) _
  rw [← hW] at x1
  have HW := Lib.hid hW
  have HO := Lib.hid (own_block (w' := W) ho fun g hg => hbW.block g (blkOf_own ho g hg).2)
  have HB := Lib.hid (hb.trans (hbW.mono hb.size))
  have HS := Lib.hid hbW.size
  have HK := Lib.hid (KeptO.below hbW)
  have X1 := Lib.hid x1
  have u0 := ta_no_flag 127 (by decide)
  have u1 := ta_num
  clear x0 x1 hbW hW hb ho
  go_enter Tryd.func74, Tryd.ntmps74
  go_wp2_with fail
  rw [← HW.out]
  refine (kindOf_num _ _ _ _ _ _ _ _ _ _).mono ?_
  rintro e w0' ⟨rfl, hb1⟩
  obtain ⟨w1, hw1⟩ : ∃ w1, w1 = w0'.alloc (.cells #[.int .i64 2, .slice p1 n1 m1, .slice p2 n2 m2, .slice p3 n3 m3] 127) := ⟨_, rfl⟩
  have hba : Below W.heap.size W w1 := by rw [hw1]; exact hb1.alloc hb1.size _
  have K1 := Lib.hid (show w1.heap[w0'.heap.size]? = some (.cells #[.int .i64 2, .slice p1 n1 m1, .slice p2 n2 m2, .slice p3 n3 m3] 127 (0, 0)) by rw [hw1]; exact Go.Deep.blk_alloc_new _ _)
  have HO1 := Lib.hid (own_block (w' := w1) HO.out fun g hg => hba.block g (blkOf_own HO.out g hg).2)
  have HB1 := Lib.hid (HB.out.trans (hba.mono HB.out.size))
  have HS1 := Lib.hid (Nat.le_trans HS.out hba.size)
  have HK1 := Lib.hid (HK.out.trans (KeptO.below hba))
  have V1 := Lib.hid (blk_below X1.out hba (blk4 X1.out).2.2.2.2.2.2.2.2)
  have HW1 := Lib.hid hw1
  clear hba hb1 hw1
  obtain ⟨v0, v1, v2, v3, _, _, _, _, vz⟩ := blk4 V1.out
  rw [HW1.out] at v0 v1 v2 v3
  have TA := Lib.hid (htab.on HB1.out)
  obtain ⟨ds, hds⟩ : ∃ ds, ds = decB q := ⟨_, rfl⟩
  have HAI := Lib.hid (appInt_any w0.heap.size q hq (.slice p nn m) l w1 HO1.out HB1.out.size (by omega) TA.out)
  rw [← hds] at HAI
  have HFB := Lib.hid hds
  clear hds
  go_wp2_with fail
  rw [← HW1.out]
  refine HAI.out.mono ?_
  rintro e w2 ⟨q2, k2, m2', rfl, hp2, hb2, hk2⟩
  have HP2 := Lib.hid hp2
  have HB2 := Lib.hid (HB1.out.trans hb2)
  have HZ2 := Lib.hid (Nat.le_trans HS1.out hb2.size)
  have HK2 := Lib.hid (HK1.out.trans hk2)
  clear hp2 hb2 hk2
  go_wp2_with fail
  go_ret
  exact ⟨q2, k2, m2', rfl, by have h := HP2.out; rw [HFB.out] at h; exact h, HB2.out, HZ2.out, HK2.out⟩

set_option maxRecDepth 100000 in
set_option maxHeartbeats 2000000 in
theorem av_pick (w0 w : World) (v : Value) (l : List UInt8) (p1 p2 p3 p4 : Option Addr) (n1 n2 n3 n4 m1 m2 m3 m4 : Nat) (n : Int) (t : ByteArray)
    (hb : Below w0.heap.size w0 w) (ho : OwnB w w0.heap.size v l) (hl : l.length + 100 ≤ 1099511627776) (ht : t.size ≤ 8) :
    Calls Tryd.prog 74 #[v, .agg #[.int .i64 4, .slice p1 n1 m1, .slice p2 n2 m2, .slice p3 n3 m3], .agg #[.int .i64 4, .int .i64 n, .string t, .slice p4 n4 m4]] w (AvPost w0 w (l ++ t.data.toList)) := by
  obtain ⟨p, nn, m, rfl⟩ := ho.slice
  obtain ⟨x0, x1⟩ := two_new w (.cells #[.int .i64 4, .slice p1 n1 m1, .slice p2 n2 m2, .slice p3 n3 m3] 26) (.cells #[.int .i64 4, .int .i64 n, .string t, .slice p4 n4 m4] 55)
  obtain ⟨W, hW⟩ : ∃ W, W = (w.alloc (.cells #[.int .i64 4, .slice p1 n1 m1, .slice p2 n2 m2, .slice p3 n3 m3] 26)).alloc (.cells #[.int .i64 4, .int .i64 n, .string t, .slice p4 n4 m4] 55) := ⟨_, rfl⟩
  have hbW : Below w.heap.size w W := by rw [hW]; exact (below_alloc w _).alloc (by simp) _
  rw [← hW] at x1
  have HW := Lib.hid hW
  have HO := Lib.hid (own_block (w' := W) ho fun g hg => hbW.block g (blkOf_own ho g hg).2)
  have HB := Lib.hid (hb.trans (hbW.mono hb.size))
  have HS := Lib.hid hbW.size
  have HK := Lib.hid (KeptO.below hbW)
  have X1 := Lib.hid x1
  have u0 := ta_no_flag 100 (by decide)
  have u1 := ta_no_num 100 (by decide)
  have u2 := ta_no_text 100 (by decide)
  have u3 := ta_pick
  clear x0 x1 hbW hW hb ho
  go_enter Tryd.func74, Tryd.ntmps74
  go_wp2_with fail
  rw [← HW.out]
  refine (kindOf_pick _ _ _ _ _ _ _ _ _ _).mono ?_
  rintro e w0' ⟨rfl, hb1⟩
  obtain ⟨w1, hw1⟩ : ∃ w1, w1 = w0'.alloc (.cells #[.int .i64 4, .slice p1 n1 m1, .slice p2 n2 m2, .slice p3 n3 m3] 100) := ⟨_, rfl⟩
  have hba : Below W.heap.size W w1 := by rw [hw1]; exact hb1.alloc hb1.size _
  have K1 := Lib.hid (show w1.heap[w0'.heap.size]? = some (.cells #[.int .i64 4, .slice p1 n1 m1, .slice p2 n2 m2, .slice p3 n3 m3] 100 (0, 0)) by rw [hw1]; exact Go.Deep.blk_alloc_new _ _)
  have HO1 := Lib.hid (own_block (w' := w1) HO.out fun g hg => hba.block g (blkOf_own HO.out g hg).2)
  have HB1 := Lib.hid (HB.out.trans (hba.mono HB.out.size))
  have HS1 := Lib.hid (Nat.le_trans HS.out hba.size)
  have HK1 := Lib.hid (HK.out.trans (KeptO.below hba))
  have V1 := Lib.hid (blk_below X1.out hba (blk4 X1.out).2.2.2.2.2.2.2.2)
  have HW1 := Lib.hid hw1
  clear hba hb1 hw1
  obtain ⟨v0, v1, v2, v3, _, _, _, _, vz⟩ := blk4 V1.out
  rw [HW1.out] at v0 v1 v2 v3
  go_wp2_with (at_builtin; go_must (rw [← HW1.out]; refine wpList_strK w1 rfl (.tmp 45) (.tmp 47) rfl w0.heap.size (.slice p nn m) l t rfl HO1.out rfl (by omega) HB1.out.size ?_))
  intro v2' w2 hv2 hb2 hk2
  obtain ⟨q2, k2, m2', rfl⟩ := hv2.slice
  have HP2 : Hid (OwnB w2 w0.heap.size (.slice q2 k2 m2') (l ++ t.data.toList)) := by show OwnB _ _ _ _; simpa using hv2
  have HB2 := Lib.hid (hb2 _ _ HB1.out (Nat.le_refl _))
  have HZ2 := Lib.hid (Nat.le_trans HS1.out (hb2 0 _ (Below.refl _ _) (Nat.zero_le _)).size)
  have HK2 := Lib.hid (HK1.out.trans hk2.o)
  clear hv2 hb2 hk2
  go_wp2_with fail
  go_ret
  exact ⟨q2, k2, m2', rfl, HP2.out, HB2.out, HZ2.out, HK2.out⟩

end Go.Proofs.YtflpfphfoibggaaDoor
