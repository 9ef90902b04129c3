/- Walks: impl.Unseal, spec.Unseal, laws.eqTextOut. -/
import Derived.Test.YtejkeoahdienmaaUnsealP
import Derived.Deep.RegionWith
import Derived.Test.YtejkeoahdienmaaCloneW
namespace Go.Proofs.Ytejkeoahdienmaa
open Go.RowKit

/-- A TextOut. -/
def textV (t : ByteArray) (at_ code : Int) : Value := .agg #[.string t, .int .i64 at_, .int .i64 code]

set_option maxRecDepth 100000 in
set_option maxHeartbeats 400000 in
theorem unseal_long (s : ByteArray) (w : World) (hs : s.size ≤ maxLen) (h : 8000 < s.size) :
    Calls Try.prog 15 #[.string s] w fun e w' => e = .returned (.agg #[.string ⟨#[]⟩, .int .i64 0, .int .i64 2]) ∧ Below w.heap.size w w' := by
  have HS := Lib.hid hs
  clear hs
  go_enter Try.func15, Try.ntmps15
  go_wp2_with (go_at_call 37; refine (tooLong_yes s _ HS.out h).mono ?_; rintro e w' ⟨rfl, rfl⟩)
  refine bodyPost_ret (v := .agg #[.string ⟨#[]⟩, .int .i64 0, .int .i64 2]) (by simp [results, Try.results15, go_sem]) rfl ⟨rfl, (Below.refl _ _).alloc (Nat.le_refl _) _⟩

set_option maxRecDepth 100000 in
set_option maxHeartbeats 400000 in
theorem unseal_short (s : ByteArray) (w : World) (h : s.size < 4) :
    Calls Try.prog 15 #[.string s] w fun e w' => e = .returned (.agg #[.string ⟨#[]⟩, .int .i64 0, .int .i64 4]) ∧ Below w.heap.size w w' := by
  have h1 : (s.size : Int) < 4 := by omega
  have HS := Lib.hid (show s.size ≤ 8000 by omega)
  go_enter Try.func15, Try.ntmps15
  go_wp2_with (go_at_call 37; refine (tooLong_no s _ HS.out).mono ?_; rintro e w' ⟨rfl, rfl⟩)
  refine bodyPost_ret (v := .agg #[.string ⟨#[]⟩, .int .i64 0, .int .i64 4]) (by simp [results, Try.results15, go_sem]) rfl ⟨rfl, (Below.refl _ _).alloc (Nat.le_refl _) _⟩

set_option maxRecDepth 100000 in
set_option maxHeartbeats 400000 in
theorem unseal_bad (s : ByteArray) (w : World) (h : s.size ≤ 8000) (h4 : 4 ≤ s.size) (hb : sealedB s = false) :
    Calls Try.prog 15 #[.string s] w fun e w' => e = .returned (.agg #[.string ⟨#[]⟩, .int .i64 0, .int .i64 5]) ∧ Below w.heap.size w w' := by
  have h1 : (4 : Int) ≤ s.size := by omega
  have HI := Lib.hid (show s.extract 0 (s.size - 4) = innerOf s from rfl)
  have HM := Lib.hid (show (innerOf s).size ≤ maxLen by have := inner_size s; unfold maxLen; omega)
  obtain ⟨i, HJ⟩ : ∃ i, Hid (innerOf s = i) := ⟨_, rfl⟩
  have ht : (sealB i == s.toList) = false := by rw [← HJ.out, seal_testL h, hb]
  have HT := Lib.hid ht
  clear hb ht
  go_enter Try.func15, Try.ntmps15
  go_wp2_with fail
  refine (tooLong_no s _ h).mono ?_
  rintro e w' ⟨rfl, rfl⟩
  go_wp2_with fail
  rw [HI.out, HJ.out]
  refine (seal_any i _ (by rw [← HJ.out]; exact HM.out)).mono ?_
  rintro e w1 ⟨rfl, hb1⟩
  have ht := HT.out
  clear HI HM
  obtain ⟨hc, hf⟩ := bcell hb1
  have hz : w.heap.size < w1.heap.size := by have := hb1.size; simp at this; omega
  go_wp2_with fail
  refine bodyPost_ret (v := .agg #[.string ⟨#[]⟩, .int .i64 0, .int .i64 5]) (by simp [results, Try.results15, go_sem, hc]) rfl ⟨rfl, below3 rfl hb1 (by simp) _ _ _⟩

set_option maxRecDepth 100000 in
set_option maxHeartbeats 400000 in
theorem unseal_good (s : ByteArray) (w : World) (h : s.size ≤ 8000) (h4 : 4 ≤ s.size) (hb : sealedB s = true) :
    Calls Try.prog 15 #[.string s] w fun e w' => e = .returned (.agg #[.string (innerOf s), .int .i64 0, .int .i64 0]) ∧ Below w.heap.size w w' := by
  have h1 : (4 : Int) ≤ s.size := by omega
  have HI := Lib.hid (show s.extract 0 (s.size - 4) = innerOf s from rfl)
  have HM := Lib.hid (show (innerOf s).size ≤ 7996 by have := inner_size s; omega)
  obtain ⟨i, HJ⟩ : ∃ i, Hid (innerOf s = i) := ⟨_, rfl⟩
  have HK := Lib.hid (show i.size ≤ 7996 by rw [← HJ.out]; exact HM.out)
  have ht : (sealB i == s.toList) = true := by rw [← HJ.out, seal_testL h, hb]
  have HT := Lib.hid ht
  clear hb ht
  go_enter Try.func15, Try.ntmps15
  go_wp2_with fail
  refine (tooLong_no s _ h).mono ?_
  rintro e w' ⟨rfl, rfl⟩
  go_wp2_with fail
  rw [HI.out, HJ.out]
  refine (seal_any i _ (by have := HK.out; unfold maxLen; omega)).mono ?_
  rintro e w1 ⟨rfl, hb1⟩
  have ht := HT.out
  clear HI HM
  go_wp2_with fail
  refine (clone_any i _ (by have := HK.out; omega)).mono ?_
  rintro e w2 ⟨rfl, hb2⟩
  have hb3 := hb1.trans (hb2.mono hb1.size)
  clear hb1 hb2
  obtain ⟨hc, hf⟩ := bcell hb3
  have hz : w.heap.size < w2.heap.size := by have := hb3.size; simp at this; omega
  go_wp2_with fail
  refine bodyPost_ret (v := .agg #[.string i, .int .i64 0, .int .i64 0]) (by simp [results, Try.results15, go_sem, hc]) rfl ⟨by rw [HJ.out], below3 rfl hb3 (by simp) _ _ _⟩

/-! ### The model -/
set_option maxRecDepth 100000 in
theorem specUnseal_long (s : ByteArray) (w : World) (hs : s.size ≤ maxLen) (h : 8000 < s.size) :
    Calls Try.prog 27 #[.string s] w fun e w' => e = .returned (.agg #[.string ⟨#[]⟩, .int .i64 0, .int .i64 2]) ∧ Below w.heap.size w w' := by
  unfold maxLen at hs
  have h1 : (8000 : Int) < s.size := by omega
  go_enter Try.func27, Try.ntmps27
  go_wp2_with fail
  refine bodyPost_ret (v := .agg #[.string ⟨#[]⟩, .int .i64 0, .int .i64 2]) (by simp [results, Try.results27, go_sem]) rfl ⟨rfl, (Below.refl _ _).alloc (Nat.le_refl _) _⟩

set_option maxRecDepth 100000 in
theorem specUnseal_short (s : ByteArray) (w : World) (h : s.size < 4) :
    Calls Try.prog 27 #[.string s] w fun e w' => e = .returned (.agg #[.string ⟨#[]⟩, .int .i64 0, .int .i64 4]) ∧ Below w.heap.size w w' := by
  have h1 : (s.size : Int) < 4 := by omega
  go_enter Try.func27, Try.ntmps27
  go_wp2_with fail
  refine bodyPost_ret (v := .agg #[.string ⟨#[]⟩, .int .i64 0, .int .i64 4]) (by simp [results, Try.results27, go_sem]) rfl ⟨rfl, (Below.refl _ _).alloc (Nat.le_refl _) _⟩

set_option maxRecDepth 100000 in
set_option maxHeartbeats 1000000 in
theorem specUnseal_bad (s : ByteArray) (w : World) (h : s.size ≤ 8000) (h4 : 4 ≤ s.size) (hb : sealedB s = false) :
    Calls Try.prog 27 #[.string s] w fun e w' => e = .returned (.agg #[.string ⟨#[]⟩, .int .i64 0, .int .i64 5]) ∧ Below w.heap.size w w' := by
  have h1 : (4 : Int) ≤ s.size := by omega
  have h2 : (s.size : Int) ≤ 8000 := by omega
  have HS := Lib.hid (show (innerOf s).size ≤ 8000 by rw [inner_size]; omega)
  have HL := Lib.hid (show sumOf s < 4294967296 from crcMoreN_lt 0 _ (by decide))
  have ht : (fourB (sumOf s) == (s.extract (s.size - 4) s.size).toList) = false := tail_testL.trans hb
  clear hb
  go_enter Try.func27, Try.ntmps27
  go_wp2_with fail
  have e1 : IntKind.i64.wrap ((s.size : Int) - 4) = (s.size : Int) - 4 := IntWalk.i64_in _ (by omega)
  have e2 : 0 ≤ (s.size : Int) - 4 := by omega
  have e3 : ((s.size : Int) - 4).toNat = s.size - 4 := by omega
  go_region_with (first
    | (go_at_call 36; refine (l01Crc_any 0 (innerOf s) _ (by decide) HS.out).mono ?_; rintro e w' ⟨rfl, rfl⟩)
    | (go_at_call 35; refine (four_any (sumOf s) _ HL.out).mono ?_; rintro e w1 ⟨rfl, hb1⟩))
  all_goals
    clear e1 e2 e3
    obtain ⟨hc, hf⟩ := bcell hb1
    have hz : w.heap.size < w1.heap.size := by have := hb1.size; simp at this; omega
    go_wp2_with fail
    refine bodyPost_ret (v := .agg #[.string ⟨#[]⟩, .int .i64 0, .int .i64 5]) (by simp [results, Try.results27, go_sem, hc]) rfl ⟨rfl, ?_⟩
    exact below3d rfl hb1 (by simp) _ _ _

set_option maxRecDepth 100000 in
set_option maxHeartbeats 1000000 in
theorem specUnseal_good (s : ByteArray) (w : World) (h : s.size ≤ 8000) (h4 : 4 ≤ s.size) (hb : sealedB s = true) :
    Calls Try.prog 27 #[.string s] w fun e w' => e = .returned (.agg #[.string (innerOf s), .int .i64 0, .int .i64 0]) ∧ Below w.heap.size w w' := by
  have h1 : (4 : Int) ≤ s.size := by omega
  have h2 : (s.size : Int) ≤ 8000 := by omega
  have HS := Lib.hid (show (innerOf s).size ≤ 8000 by rw [inner_size]; omega)
  have HL := Lib.hid (show sumOf s < 4294967296 from crcMoreN_lt 0 _ (by decide))
  have ht : (fourB (sumOf s) == (s.extract (s.size - 4) s.size).toList) = true := tail_testL.trans hb
  clear hb
  go_enter Try.func27, Try.ntmps27
  go_wp2_with fail
  have e1 : IntKind.i64.wrap ((s.size : Int) - 4) = (s.size : Int) - 4 := IntWalk.i64_in _ (by omega)
  have e2 : 0 ≤ (s.size : Int) - 4 := by omega
  have e3 : ((s.size : Int) - 4).toNat = s.size - 4 := by omega
  go_region_with (first
    | (go_at_call 36; refine (l01Crc_any 0 (innerOf s) _ (by decide) HS.out).mono ?_; rintro e w' ⟨rfl, rfl⟩)
    | (go_at_call 35; refine (four_any (sumOf s) _ HL.out).mono ?_; rintro e w1 ⟨rfl, hb1⟩))
  all_goals
    clear e1 e2 e3
    obtain ⟨hc, hf⟩ := bcell hb1
    have hz : w.heap.size < w1.heap.size := by have := hb1.size; simp at this; omega
    go_wp2_with fail
    refine bodyPost_ret (v := .agg #[.string (s.extract 0 (s.size - 4)), .int .i64 0, .int .i64 0]) (by simp [results, Try.results27, go_sem, hc]) rfl ⟨rfl, ?_⟩
    exact below3d rfl hb1 (by simp) _ _ _
end Go.Proofs.Ytejkeoahdienmaa
