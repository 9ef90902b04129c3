/- Walks: impl.PutText and spec.PutText. -/
import Derived.Test.YtejkeoahdienmaaDoorPutW
import Derived.Test.YtejkeoahdienmaaDoorJoinW
namespace Go.Proofs.YtejkeoahdienmaaDoor
open Go.RowKit

/-- What PutText tells, as bytes. -/
def putText (s : ByteArray) : List UInt8 := if 8000 < s.size then [] else putNum s.size ++ s.data.toList

theorem inI64_nat {n : Nat} (h : n ≤ 1099511627776) : InI64 (n : Int) := by unfold InI64; omega

set_option maxHeartbeats 400000 in
theorem putText_any (s : ByteArray) (w : World) (hs : s.size ≤ maxLen) :
    Calls Tryd.prog 11 #[.string s] w fun e w' => e = .returned (.string ⟨(putText s).toArray⟩) ∧ Below w.heap.size w w' := by
  have HS := Lib.hid hs
  unfold maxLen at hs
  by_cases h : 8000 < s.size
  · have HP := Lib.hid (show putText s = [] by unfold putText; rw [if_pos h])
    go_enter Tryd.func11, Tryd.ntmps11
    go_wp2_with (go_at_call 22; refine (tooLong_yes s _ HS.out h).mono ?_; rintro e w' ⟨rfl, rfl⟩)
    go_ret
    exact ⟨ret_list HP.out.symm, Below.refl _ _⟩
  · have HP := Lib.hid (show putText s = putNum s.size ++ s.data.toList by unfold putText; rw [if_neg h])
    have HI := Lib.hid (inI64_nat (show s.size ≤ 1099511627776 by omega))
    have HL := Lib.hid (putNum_len HI.out)
    have hle : s.size ≤ 8000 := by omega
    go_enter Tryd.func11, Tryd.ntmps11
    go_wp2_with fail
    refine (tooLong_no s _ hle).mono ?_
    rintro e w' ⟨rfl, rfl⟩
    go_wp2_with fail
    refine (putNum_any _ _ HI.out).mono ?_
    rintro e w1 ⟨rfl, hb1⟩
    go_wp2_with fail
    refine (joined_any _ _ _ ?_).mono ?_
    · show (putNum s.size).toArray.size + s.size ≤ _
      have := HL.out
      simp; omega
    rintro e w2 ⟨rfl, hb2⟩
    go_wp2_with fail
    go_ret
    exact ⟨ret_list HP.out.symm, hb1.trans (hb2.mono hb1.size)⟩

set_option maxHeartbeats 400000 in
theorem specPutText_any (s : ByteArray) (w : World) (hs : s.size ≤ maxLen) :
    Calls Tryd.prog 12 #[.string s] w fun e w' => e = .returned (.string ⟨(putText s).toArray⟩) ∧ Below w.heap.size w w' := by
  unfold maxLen at hs
  by_cases h : 8000 < s.size
  · have HP := Lib.hid (show putText s = [] by unfold putText; rw [if_pos h])
    have h1 : (8000 : Int) < s.size := by omega
    go_enter Tryd.func12, Tryd.ntmps12
    go_wp2_with fail
    go_ret
    exact ⟨ret_list HP.out.symm, Below.refl _ _⟩
  · have HP := Lib.hid (show putText s = putNum s.size ++ s.data.toList by unfold putText; rw [if_neg h])
    have HI := Lib.hid (inI64_nat (show s.size ≤ 1099511627776 by omega))
    have HL := Lib.hid (putNum_len HI.out)
    have hle : (s.size : Int) ≤ 8000 := by omega
    go_enter Tryd.func12, Tryd.ntmps12
    go_wp2_with fail
    refine (specPutNum_any _ _ HI.out).mono ?_
    rintro e w1 ⟨rfl, hb1⟩
    have hq : ¬ 9223372036854775807 < (putNum s.size).length + s.size := by have := HL.out; omega
    go_wp2_with fail
    go_ret
    exact ⟨ret_str ((app_list _ _).trans (by rw [HP.out])), hb1⟩
end Go.Proofs.YtejkeoahdienmaaDoor
