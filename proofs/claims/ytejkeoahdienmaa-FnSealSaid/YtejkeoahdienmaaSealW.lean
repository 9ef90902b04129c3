/- Walks: impl.sumBytes, spec.l01Four, impl.Seal, spec.Seal. -/
import Derived.Test.YtejkeoahdienmaaCrcW
import Derived.LoopN
namespace Go.Proofs.Ytejkeoahdienmaa
open Go.RowKit

/-- The four bytes of a number, the lowest first. -/
def fourB (n : Nat) : List UInt8 := [UInt8.ofNat n, UInt8.ofNat (n / 256), UInt8.ofNat (n / 65536), UInt8.ofNat (n / 16777216)]

theorem conv4 (w : World) (T : TypeId) (x0 x1 x2 x3 : Int) :
    (convert 22 9 (.slice (some ⟨w.heap.size, 0, none⟩) 4 4)).run Try.prog (w.alloc (.cells #[.int .u8 x0, .int .u8 x1, .int .u8 x2, .int .u8 x3] T)) =
      .ok (.string (strOfNums [x0, x1, x2, x3])) (w.alloc (.cells #[.int .u8 x0, .int .u8 x1, .int .u8 x2, .int .u8 x3] T)) := by
  refine run_convert_bytes_arg _ _ _ Try.underlying22 Try.underlying5 w.heap.size 0 4 4 [x0, x1, x2, x3] rfl ?_ _ Try.underlying9
  intro i hi
  rw [World.cell?_alloc_at _ _ _ _ rfl]
  match i, hi with
  | 0, _ => rfl
  | 1, _ => rfl
  | 2, _ => rfl
  | 3, _ => rfl

theorem four_is {n : Nat} (h : (n : Int) ≤ 4294967295) : strOfNums [(n : Int) % 256, (n : Int) / 256 % 256, (n : Int) / 65536 % 256, (n : Int) / 16777216] = ⟨(fourB n).toArray⟩ := by
  unfold strOfNums fourB
  have e0 : ((n : Int) % 256).toNat = n % 256 := by omega
  have e1 : ((n : Int) / 256 % 256).toNat = n / 256 % 256 := by omega
  have e2 : ((n : Int) / 65536 % 256).toNat = n / 65536 % 256 := by omega
  have e3 : ((n : Int) / 16777216).toNat = n / 16777216 := by omega
  have f : ∀ m : Nat, UInt8.ofNat (m % 256) = UInt8.ofNat m := fun m => by
    apply UInt8.toNat_inj.1; rw [UInt8.toNat_ofNat', UInt8.toNat_ofNat']; omega
  simp only [List.map_cons, List.map_nil, e0, e1, e2, e3, f]

set_option maxRecDepth 100000 in
set_option maxHeartbeats 400000 in
theorem four_any (n : Nat) (w : World) (hn : n < 4294967296) :
    Calls Try.prog 35 #[.int .i64 n] w fun e w' => e = .returned (.string ⟨(fourB n).toArray⟩) ∧ Below w.heap.size w w' := by
  have h1 : (n : Int) ≤ 4294967295 := by omega
  clear hn
  have kc := conv4 w
  go_enter Try.func35, Try.ntmps35
  go_wp2
  go_ret
  exact ⟨ret_str (four_is h1), (Below.refl _ _).alloc (Nat.le_refl _) _⟩

set_option maxRecDepth 100000 in
set_option maxHeartbeats 400000 in
theorem sum_any (n : Nat) (w : World) (hn : n < 4294967296) :
    Calls Try.prog 34 #[.int .i64 n] w fun e w' => e = .returned (.string ⟨(fourB n).toArray⟩) ∧ Below w.heap.size w w' := by
  have h1 : (n : Int) ≤ 4294967295 := by omega
  clear hn
  have kc := conv4 w
  go_enter Try.func34, Try.ntmps34
  go_wp2
  refine wp_loop_rounds 5 ?_
  repeat any_goals (rw [rounds_succ]; go_wp2)
  go_ret
  exact ⟨ret_str (four_is h1), (Below.refl _ _).alloc (Nat.le_refl _) _⟩

/-- What Seal tells. -/
def sealB (s : ByteArray) : List UInt8 := if 7996 < s.size then [] else s.data.toList ++ fourB (crcMoreN 0 s.data.toList)

theorem crcMoreN_lt (r : Nat) (l : List UInt8) (h : r < 4294967296) : crcMoreN r l < 4294967296 := flipN_lt (crcN_lt _ _ (flipN_lt h))
theorem crcOf_is {s : ByteArray} (h : s.size ≤ 8000) : crcOf s = (crcMoreN 0 s.data.toList : Int) := by
  unfold crcOf crcMoreOf; rw [if_neg (by omega)]; rfl

set_option maxHeartbeats 400000 in
theorem seal_any (s : ByteArray) (w : World) (hs : s.size ≤ maxLen) :
    Calls Try.prog 12 #[.string s] w fun e w' => e = .returned (.string ⟨(sealB s).toArray⟩) ∧ Below w.heap.size w w' := by
  have HS := Lib.hid hs
  unfold maxLen at hs
  by_cases h : 7996 < s.size
  · have HP := Lib.hid (show sealB s = [] by unfold sealB; rw [if_pos h])
    have h1 : (7996 : Int) < s.size := by omega
    go_enter Try.func12, Try.ntmps12
    go_wp2_with fail
    go_ret
    exact ⟨ret_list HP.out.symm, Below.refl _ _⟩
  · have HP := Lib.hid (show sealB s = s.data.toList ++ fourB (crcMoreN 0 s.data.toList) by unfold sealB; rw [if_neg h])
    have h1 : (s.size : Int) ≤ 7996 := by omega
    have h2 : s.size ≤ 7996 := by omega
    have HC := Lib.hid (crcOf_is (s := s) (by omega))
    obtain ⟨c, HN⟩ : ∃ c, Hid (crcMoreN 0 s.data.toList = c) := ⟨_, rfl⟩
    have HL := Lib.hid (show c < 4294967296 by rw [← HN.out]; exact crcMoreN_lt 0 _ (by decide))
    go_enter Try.func12, Try.ntmps12
    go_wp2_with fail
    refine (crc_any s _ HS.out).mono ?_
    rintro e w1 ⟨rfl, rfl⟩
    rw [HC.out, HN.out]
    go_wp2_with fail
    refine (sum_any c _ HL.out).mono ?_
    rintro e w1 ⟨rfl, hb1⟩
    go_wp2_with fail
    refine (joined_any s _ _ ?_).mono ?_
    · show s.size + 4 ≤ _
      omega
    rintro e w2 ⟨rfl, hb2⟩
    go_wp2_with fail
    go_ret
    exact ⟨ret_list (by rw [HP.out, HN.out]), hb1.trans (hb2.mono hb1.size)⟩

set_option maxHeartbeats 400000 in
theorem specSeal_any (s : ByteArray) (w : World) (hs : s.size ≤ maxLen) :
    Calls Try.prog 13 #[.string s] w fun e w' => e = .returned (.string ⟨(sealB s).toArray⟩) ∧ Below w.heap.size w w' := by
  unfold maxLen at hs
  by_cases h : 7996 < s.size
  · have HP := Lib.hid (show sealB s = [] by unfold sealB; rw [if_pos h])
    have h1 : (7996 : Int) < s.size := by omega
    go_enter Try.func13, Try.ntmps13
    go_wp2_with fail
    go_ret
    exact ⟨ret_list HP.out.symm, Below.refl _ _⟩
  · have HP := Lib.hid (show sealB s = s.data.toList ++ fourB (crcMoreN 0 s.data.toList) by unfold sealB; rw [if_neg h])
    have h1 : (s.size : Int) ≤ 7996 := by omega
    have h2 : s.size ≤ 8000 := by omega
    obtain ⟨c, HN⟩ : ∃ c, Hid (crcMoreN 0 s.data.toList = c) := ⟨_, rfl⟩
    have HL := Lib.hid (show c < 4294967296 by rw [← HN.out]; exact crcMoreN_lt 0 _ (by decide))
    go_enter Try.func13, Try.ntmps13
    go_wp2_with fail
    refine (l01Crc_any 0 s _ (by decide) h2).mono ?_
    rintro e w1 ⟨rfl, rfl⟩
    rw [HN.out]
    go_wp2_with fail
    refine (four_any c _ HL.out).mono ?_
    rintro e w1 ⟨rfl, hb1⟩
    have hq : ¬ 9223372036854775807 < s.size + (fourB c).length := by show ¬ _ < s.size + 4; omega
    go_wp2_with fail
    go_ret
    exact ⟨ret_str ((app_list2 _ _).trans (by rw [HP.out, HN.out])), hb1⟩
end Go.Proofs.Ytejkeoahdienmaa
