/- Walks: laws.heldStringS. -/
import Derived.Test.YtfdhmkmeffgkgaaDoorGMarkTW
namespace Go.Proofs.YtfdhmkmeffgkgaaDoor
open Go.RowKit

set_option maxRecDepth 100000 in
set_option maxHeartbeats 1000000 in
/-- The marks are there. -/
theorem heldStrs_any (w : World) (v : Value) (n k : Nat) (h : IsStrs w v (marksB k n)) (hk : k + n ≤ 1099511627776) :
    Calls Tryd.prog 34 #[v, .int .i64 k] w fun e w' => e = .returned (.int .i64 ((k + n : Nat) : Int)) ∧ Below w.heap.size w w' := by
  obtain ⟨h1, h2, a, cap, rfl, h3, h4, h6⟩ := h
  rw [marksB_len] at *
  have H6 := Lib.hid h6
  clear h6 h2
  go_enter Tryd.func34, Tryd.ntmps34
  go_wp2_with fail
  go_loopw [1, 5] (fun a i wr => ∃ j : Nat, j ≤ n ∧ a = .int .i64 ((k + j : Nat) : Int) ∧ i = .int .i64 j ∧ Hid (Below w.heap.size w wr)) (fun _ i _ => n - (intOf i).toNat)
  case atStart => exact ⟨0, Nat.zero_le _, rfl, rfl, Below.refl _ _⟩
  case round =>
    obtain ⟨j, hj, rfl, rfl, HB⟩ := hrel
    by_cases hlt : j < n
    · obtain ⟨b, off, rfl, hc⟩ := IsStrs.at H6.out (k := j) (by rw [marksB_len]; exact hlt)
      rw [marksB_at k n j hlt] at hc
      have g0 := Keeps.of_below HB.out _ _ _ hc
      have hbz : b < wr.heap.size := World.block_lt_of_cell? wr ⟨b, off + j, none⟩ g0
      obtain ⟨mk, hmk⟩ : ∃ mk, mk = mkT (k + j) := ⟨_, rfl⟩
      rw [← hmk] at g0 hc
      have HC := Lib.hid hc
      have HM := Lib.hid (markText_any (k + j) (by omega))
      rw [← hmk] at HM
      clear hc hmk
      go_wp2_with fail
      go_region_with (go_at_call 37; refine (HM.out _).mono ?_; rintro e w1 ⟨rfl, hb1⟩; have HB1 := Lib.hid (HB.out.drew.trans (hb1.mono HB.out.size)); have hq1 := Keeps.of_below HB1.out _ _ _ HC.out; clear hb1)
      all_goals
        go_wp2_with fail
        go_roundw
        case rel => exact ⟨j + 1, hlt, by go_num, by go_num, HB1.out⟩
        case measure => simp [intOf]; omega
    · obtain rfl : j = n := by omega
      go_wp2_with fail
      go_ret
      exact ⟨rfl, HB.out⟩
end Go.Proofs.YtfdhmkmeffgkgaaDoor
