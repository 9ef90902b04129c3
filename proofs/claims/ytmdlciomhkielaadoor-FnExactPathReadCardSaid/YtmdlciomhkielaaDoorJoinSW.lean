/- Walks: spec.l02Join with a stroke; spec.PathText. -/
import Derived.Test.YtmdlciomhkielaaDoorPathTP
import Derived.WalkLawsBesides
namespace Go.Proofs.YtmdlciomhkielaaDoor
open Go.RowKit

set_option maxRecDepth 100000 in
set_option maxHeartbeats 1000000 in
theorem joinS_any (v : Value) (L : List ByteArray) (w : World) (h : IsStrs w v L) (hp : pathOk L = true) :
    Calls Tryd.prog 78 #[v, .string ⟨#[47]⟩] w fun e w' => e = .returned (.string ⟨(joinS L).toArray⟩) ∧ w = w' := by
  obtain ⟨h1, h2, a, cap, rfl, h3, h4, h6⟩ := h
  have H6 := Lib.hid h6
  have HLn := Lib.hid (path_join_len hp)
  have HS := Lib.hid (fun s (hs : s ∈ L) => step_size ((path_parts hp).2 s hs))
  clear h6 h2 hp
  go_enter Tryd.func78, Tryd.ntmps78
  go_wp2_with fail
  go_loop [5, 6] (fun s i => ∃ (k : Nat) (t : ByteArray), k ≤ L.length ∧ i = .int .i64 k ∧ s = .string t ∧ Hid (t = ⟨(joinS (L.take k)).toArray⟩)) (fun _ i => L.length - (intOf i).toNat)
  case atStart => exact ⟨0, ⟨#[]⟩, Nat.zero_le _, rfl, rfl, by show _ = _; simp [joinS, Lib.join_nil]⟩
  case round =>
    obtain ⟨k, t, hk, rfl, rfl, HT⟩ := hrel
    by_cases hlt : k < L.length
    · obtain ⟨bb, off, rfl, hc⟩ := IsStrs.at H6.out hlt
      have hts : t.size ≤ 45 := by
        rw [HT.out]
        show (List.toArray _).size ≤ _
        rw [List.size_toArray]
        exact HLn.out k
      have hss : L[k].size ≤ 8 := HS.out _ (List.getElem_mem hlt)
      have hq1 : ¬ 9223372036854775807 < t.size + 1 := by omega
      have hq2 : ¬ 9223372036854775807 < t.size + L[k].size := by omega
      have hq3 : ¬ 9223372036854775807 < t.size + 1 + L[k].size := by omega
      by_cases h0 : k = 0
      · have HJ := Lib.hid (joinS_str0 hlt HT.out h0)
        have b0 : (k : Int) ≤ 0 := by omega
        clear h0
        go_wp2_with fail
        go_round
        case rel => exact ⟨k + 1, _, hlt, by go_num, rfl, HJ.out⟩
        case measure => simp [intOf]; omega
      · have HJ := Lib.hid (joinS_str1 hlt HT.out h0)
        have b0 : (0 : Int) < (k : Int) := by omega
        clear h0
        go_wp2_with fail
        go_round
        case rel => exact ⟨k + 1, _, hlt, by go_num, rfl, HJ.out⟩
        case measure => simp [intOf]; omega
    · obtain rfl : k = L.length := by omega
      go_wp2_with fail
      go_ret
      have h := HT.out
      rw [List.take_length] at h
      exact ⟨ret_str h, rfl⟩

set_option maxHeartbeats 1000000 in
theorem specPathText_is (v : Value) (l : List ByteArray) (r : ByteArray) (hr : pathT l = r) (w : World) (h : IsStrs w v l) :
    Calls Tryd.prog 41 #[v] w fun e w' => e = .returned (.string r) ∧ Below w.heap.size w w' := by
  have HH := Lib.hid h
  clear h
  cases hp : pathOk l
  · have HP := Lib.hid hp
    have HR : Hid (r = ⟨#[]⟩) := by show _ = _; rw [← hr, pathT_no hp]
    clear hp hr
    go_enter Tryd.func41, Tryd.ntmps41
    go_wp2_with fail
    refine (specPath_is v l _ HP.out w HH.out).mono ?_
    rintro e w' ⟨rfl, rfl⟩
    go_wp2_with fail
    go_ret
    exact ⟨ret_str HR.out.symm, Below.refl _ _⟩
  · have HP := Lib.hid hp
    obtain ⟨j, hj⟩ : ∃ j : ByteArray, ⟨(joinS l).toArray⟩ = j := ⟨_, rfl⟩
    have HJ := Lib.hid hj
    have HR : Hid (r = ⟨#[47]⟩ ++ j) := by show _ = _; rw [← hr, pathT_yes hp, hj]
    have hl : j.size ≤ 45 := by
      have := path_join_len hp l.length
      rw [List.take_length] at this
      rw [← hj]; show (List.toArray _).size ≤ _
      rw [List.size_toArray]; exact this
    have hq : ¬ 9223372036854775807 < 1 + j.size := by omega
    clear hp hr hj
    go_enter Tryd.func41, Tryd.ntmps41
    go_wp2_with fail
    refine (specPath_is v l _ HP.out w HH.out).mono ?_
    rintro e w' ⟨rfl, rfl⟩
    go_wp2_with fail
    refine (joinS_any v l w HH.out HP.out).mono ?_
    rintro e w' ⟨rfl, rfl⟩
    rw [HJ.out]
    go_wp2_with fail
    go_ret
    exact ⟨ret_str HR.out.symm, Below.refl _ _⟩
end Go.Proofs.YtmdlciomhkielaaDoor
