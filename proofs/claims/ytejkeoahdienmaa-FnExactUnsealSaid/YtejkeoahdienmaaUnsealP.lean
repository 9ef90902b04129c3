/- Plain: what Unseal tells. -/
import Derived.Test.YtejkeoahdienmaaSealW
import Derived.Lib.Strings
import Derived.Lib.IndexBytes
namespace Go.Proofs.Ytejkeoahdienmaa
open Go.RowKit
def innerOf (s : ByteArray) : ByteArray := s.extract 0 (s.size - 4)
def sumOf (s : ByteArray) : Nat := crcMoreN 0 (innerOf s).data.toList
/-- Is s a Seal of all but its last four bytes? -/
def sealedB (s : ByteArray) : Bool := decide (fourB (sumOf s) = s.data.toList.drop (s.size - 4))

theorem str_beq (a b : ByteArray) : (a == b) = decide (a.data.toList = b.data.toList) := by
  cases a with | mk x => cases b with | mk y =>
  show (x == y) = _
  by_cases h : x = y
  · subst h; simp
  · have : ¬ x.toList = y.toList := fun e => h (Array.ext' e)
    rw [beq_eq_false_iff_ne.2 h]; simp [this]
theorem inner_data (s : ByteArray) : (innerOf s).data.toList = s.data.toList.take (s.size - 4) := by
  unfold innerOf; rw [Lib.extract_data]; simp
theorem inner_size (s : ByteArray) : (innerOf s).size = s.size - 4 := by
  rw [← len_list, inner_data, List.length_take, len_list]; omega
theorem seal_test {s : ByteArray} (h : s.size ≤ 8000) : ((⟨(sealB (innerOf s)).toArray⟩ : ByteArray) == s) = sealedB s := by
  rw [str_beq]
  unfold sealB sealedB
  have h1 := inner_size s
  rw [if_neg (by omega)]
  have e : s.data.toList = (innerOf s).data.toList ++ s.data.toList.drop (s.size - 4) := by
    rw [inner_data, List.take_append_drop]
  apply decide_eq_decide.2
  show (innerOf s).data.toList ++ fourB (sumOf s) = s.data.toList ↔ _
  constructor
  · intro h2
    rw [e] at h2
    have := List.append_cancel_left h2
    exact this
  · intro h2
    rw [h2, ← e]
theorem tail_test {s : ByteArray} : ((⟨(fourB (sumOf s)).toArray⟩ : ByteArray) == s.extract (s.size - 4) s.size) = sealedB s := by
  rw [str_beq, Lib.extract_to_end]; rfl
theorem list_beq (a b : List UInt8) : (a == b) = decide (a = b) := by
  by_cases h : a = b
  · subst h; simp
  · rw [beq_eq_false_iff_ne.2 h]; simp [h]
theorem seal_testL {s : ByteArray} (h : s.size ≤ 8000) : (sealB (innerOf s) == s.toList) = sealedB s := by
  have := seal_test h
  rw [str_beq] at this
  rw [← this, Lib.toList_data, list_beq]
theorem tail_testL {s : ByteArray} : (fourB (sumOf s) == (s.extract (s.size - 4) s.size).toList) = sealedB s := by
  have := tail_test (s := s)
  rw [str_beq] at this
  rw [← this, Lib.toList_data, list_beq]
end Go.Proofs.Ytejkeoahdienmaa
