/- Walks: spec.l02Join with a comma. -/
import Derived.Test.YtmdlciomhkielaaDoorGBytW
import Derived.WalkLawsBesides
namespace Go.Proofs.YtmdlciomhkielaaDoor
open Go.RowKit

theorem joinC_str0 {L : List ByteArray} {k : Nat} (h : k < L.length) {s : ByteArray} (hs : s = ⟨(joinC ((L.take k).map (·.data.toList))).toArray⟩) (h0 : k = 0) : s ++ L[k] = ⟨(joinC ((L.take (k + 1)).map (·.data.toList))).toArray⟩ := by
  have := joinC_take0 h (l := []) (L := joinC ((L.take k).map (·.data.toList))) (by simp) h0
  rw [List.nil_append] at this
  rw [hs, app_list, this]
theorem joinC_str1 {L : List ByteArray} {k : Nat} (h : k < L.length) {s : ByteArray} (hs : s = ⟨(joinC ((L.take k).map (·.data.toList))).toArray⟩) (h0 : ¬ k = 0) : (s ++ ⟨#[44]⟩) ++ L[k] = ⟨(joinC ((L.take (k + 1)).map (·.data.toList))).toArray⟩ := by
  have := joinC_take1 h (l := []) (L := joinC ((L.take k).map (·.data.toList))) (by simp) h0
  rw [List.nil_append] at this
  rw [hs, app_list, app_list]
  exact congrArg (fun l : List UInt8 => (⟨l.toArray⟩ : ByteArray)) this

set_option maxRecDepth 100000 in
set_option maxHeartbeats 1000000 in
theorem join_any (v : Value) (L : List ByteArray) (w : World) (h : IsStrs w v L) (b : Nat) (hb : ∀ s ∈ L, s.size ≤ b) (hL : L.length * (b + 1) ≤ 1099511627776) :
    Calls Tryd.prog 78 #[v, .string ⟨#[44]⟩] w fun e w' => e = .returned (.string ⟨(joinC (L.map (·.data.toList))).toArray⟩) ∧ w = w' := by
  obtain ⟨h1, h2, a, cap, rfl, h3, h4, h6⟩ := h
  have H6 := Lib.hid h6
  have HBs := Lib.hid hb
  have HLn := Lib.hid (fun k => joinC_len b ((L.take k).map (·.data.toList)) (fun x hx => by
    obtain ⟨s, hs, rfl⟩ := List.mem_map.1 hx
    rw [Array.length_toList]
    exact hb s (List.mem_of_mem_take hs)))
  have HLL := Lib.hid hL
  clear h6 h2 hb hL
  go_enter Tryd.func78, Tryd.ntmps78
  go_wp2_with fail
  go_loop [5, 6] (fun s i => ∃ (k : Nat) (t : ByteArray), k ≤ L.length ∧ i = .int .i64 k ∧ s = .string t ∧ Hid (t = ⟨(joinC ((L.take k).map (·.data.toList))).toArray⟩)) (fun _ i => L.length - (intOf i).toNat)
  case atStart => exact ⟨0, ⟨#[]⟩, Nat.zero_le _, rfl, rfl, by show _ = _; simp [joinC]⟩
  case round =>
    obtain ⟨k, t, hk, rfl, rfl, HT⟩ := hrel
    by_cases hlt : k < L.length
    · obtain ⟨bb, off, rfl, hc⟩ := IsStrs.at H6.out hlt
      have hts : t.size ≤ 1099511627776 := by
        rw [HT.out]
        show (List.toArray _).size ≤ _
        rw [List.size_toArray]
        refine Nat.le_trans (HLn.out k) (Nat.le_trans (Nat.mul_le_mul_right _ ?_) HLL.out)
        rw [List.length_map, List.length_take]; omega
      have hss : L[k].size ≤ 1099511627776 := by
        have h5 := HBs.out _ (List.getElem_mem hlt)
        have h6 := HLL.out
        have : 1 * (b + 1) ≤ L.length * (b + 1) := Nat.mul_le_mul_right _ (by omega)
        omega
      have hq1 : ¬ 9223372036854775807 < t.size + 1 := by omega
      have hq2 : ¬ 9223372036854775807 < t.size + L[k].size := by omega
      have hq3 : ¬ 9223372036854775807 < t.size + 1 + L[k].size := by omega
      by_cases h0 : k = 0
      · have HJ := Lib.hid (joinC_str0 hlt HT.out h0)
        have b0 : (k : Int) ≤ 0 := by omega
        clear h0
        go_wp2_with fail
        go_round
        case rel => exact ⟨k + 1, _, hlt, by go_num, rfl, HJ.out⟩
        case measure => simp [intOf]; omega
      · have HJ := Lib.hid (joinC_str1 hlt HT.out h0)
        have b0 : (0 : Int) < (k : Int) := by omega
        clear h0
        go_wp2_with fail
        go_round
        case rel => exact ⟨k + 1, _, hlt, by go_num, rfl, HJ.out⟩
        case measure => simp [intOf]; omega
    · obtain rfl : k = L.length := by omega
      go_wp2_with fail
      go_ret
      have h := HT.out
      rw [List.take_length] at h
      exact ⟨ret_str h, rfl⟩
end Go.Proofs.YtmdlciomhkielaaDoor
