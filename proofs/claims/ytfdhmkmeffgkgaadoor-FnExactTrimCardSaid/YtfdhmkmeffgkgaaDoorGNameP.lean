/- Plain: what a name is. -/
import Derived.Test.YtfdhmkmeffgkgaaDoorGBase
namespace Go.Proofs.YtfdhmkmeffgkgaaDoor
/-- A small letter. -/
def lowB (c : UInt8) : Bool := decide (97 ≤ (c.toNat : Int)) && decide ((c.toNat : Int) ≤ 122)
/-- A byte of a name. -/
def nameB (c : UInt8) : Bool := lowB c || (decide (48 ≤ (c.toNat : Int)) && decide ((c.toNat : Int) ≤ 57)) || ((c.toNat : Int) == 95)
/-- A name. -/
def nameOk (l : List UInt8) : Bool := decide (1 ≤ l.length) && decide (l.length ≤ 20) && lowB (l.headD 0) && l.all nameB
theorem name_no {s : ByteArray} {k : Nat} (h : k < s.size) (hn : nameB s[k] = false) : nameOk s.data.toList = false := by
  have : s.data.toList.all nameB = false := by
    rw [List.all_eq_false]; exact ⟨s[k], mem_at s k h, by simp [hn]⟩
  unfold nameOk; rw [this]; simp
theorem name_yes {s : ByteArray} (h1 : 1 ≤ s.size) (h2 : s.size ≤ 20) (h3 : lowB (s.data.toList.headD 0) = true) (h4 : s.data.toList.all nameB = true) : nameOk s.data.toList = true := by
  have e : s.data.toList.length = s.size := by simp
  unfold nameOk; rw [h3, h4, e]; simp [h2]; omega
theorem low_iff (c : UInt8) : lowB c = true ↔ 97 ≤ (c.toNat : Int) ∧ (c.toNat : Int) ≤ 122 := by unfold lowB; simp
theorem head_at {s : ByteArray} (h : 0 < s.size) : s.data.toList.headD 0 = s[0] := by
  have hlen : s.data.toList.length = s.size := by simp
  rw [List.headD_eq_head?_getD, List.head?_eq_getElem?, List.getElem?_eq_getElem (by omega)]; rfl
theorem spec_low {s : ByteArray} {k : Nat} (h : k < s.size) (hk : (s.data.toList.take k).all nameB = true ∧ (1 ≤ k → lowB (s.data.toList.headD 0) = true)) (hn : 97 ≤ (s[k].toNat : Int) ∧ (s[k].toNat : Int) ≤ 122) :
    (s.data.toList.take (k + 1)).all nameB = true ∧ (1 ≤ k + 1 → lowB (s.data.toList.headD 0) = true) := by
  have hl := (low_iff _).2 hn
  refine ⟨all_snoc h hk.1 (by unfold nameB; rw [hl]; simp), fun _ => ?_⟩
  by_cases h0 : k = 0
  · subst h0; rw [head_at h]; exact hl
  · exact hk.2 (by omega)
theorem spec_dig {s : ByteArray} {k : Nat} (h : k < s.size) (h0 : ¬ k = 0) (hk : (s.data.toList.take k).all nameB = true ∧ (1 ≤ k → lowB (s.data.toList.headD 0) = true)) (hn : nameB s[k] = true) :
    (s.data.toList.take (k + 1)).all nameB = true ∧ (1 ≤ k + 1 → lowB (s.data.toList.headD 0) = true) :=
  ⟨all_snoc h hk.1 hn, fun _ => hk.2 (by omega)⟩
theorem spec_no0 {s : ByteArray} {k : Nat} (h : k < s.size) (h0 : k = 0) (hn : ¬ (97 ≤ (s[k].toNat : Int) ∧ (s[k].toNat : Int) ≤ 122)) : nameOk s.data.toList = false := by
  subst h0
  have : lowB (s.data.toList.headD 0) = false := by
    rw [head_at h]; exact Bool.eq_false_iff.2 fun e => hn ((low_iff _).1 e)
  unfold nameOk; rw [this]; simp
theorem nameB_dig {c : UInt8} (h : 48 ≤ (c.toNat : Int) ∧ (c.toNat : Int) ≤ 57) : nameB c = true := by unfold nameB; simp [h.1, h.2]
theorem nameB_und {c : UInt8} (h : ((c.toNat : Int) == 95) = true) : nameB c = true := by unfold nameB; rw [h]; simp
theorem nameB_no {c : UInt8} (h1 : ¬ (97 ≤ (c.toNat : Int) ∧ (c.toNat : Int) ≤ 122)) (h2 : ¬ (48 ≤ (c.toNat : Int) ∧ (c.toNat : Int) ≤ 57)) (h : ((c.toNat : Int) == 95) = false) : nameB c = false := by
  have e1 : lowB c = false := Bool.eq_false_iff.2 fun e => h1 ((low_iff _).1 e)
  unfold nameB; rw [h, e1]; simp; omega
end Go.Proofs.YtfdhmkmeffgkgaaDoor
