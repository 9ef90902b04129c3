/- Walks: spec.GetNum. -/
import Derived.Test.YtejkeoahdienmaaDoorGetW
namespace Go.Proofs.YtejkeoahdienmaaDoor
open Go.RowKit

def numV (R : Int × Int × Int) : Value := .agg #[.int .i64 R.1, .int .i64 R.2.1, .int .i64 R.2.2]
theorem numV_is {R : Int × Int × Int} {a b c : Int} (h : R = (a, b, c)) : Ending.returned (.agg #[.int .i64 a, .int .i64 b, .int .i64 c]) = .returned (numV R) := by subst h; rfl

set_option maxRecDepth 100000 in
set_option maxHeartbeats 1000000 in
theorem specGet_any (s : ByteArray) (q : Nat) (w : World) (hs : s.size ≤ 8000) (hq : q ≤ 9223372036854775807) :
    Calls Tryd.prog 14 #[.string s, .int .i64 q] w fun e w' => e = .returned (numV (getF s 10 q 0)) ∧ Below w.heap.size w w' := by
  obtain ⟨R, HR⟩ : ∃ R, Hid (getF s 10 q 0 = R) := ⟨_, rfl⟩
  rw [HR.out]
  have h1 : (s.size : Int) ≤ 8000 := by omega
  have h2 : (q : Int) ≤ 9223372036854775807 := by omega
  go_enter Tryd.func14, Tryd.ntmps14
  go_wp2
  go_loop [5, 6] (fun x y => ∃ (u i : Nat), y = .int .i64 i ∧ i ≤ 10 ∧ x = .int .u64 u ∧ Hid (u < 128 ^ i ∧ u < 18446744073709551616 ∧ getF s (10 - i) (q + i) u = R) ∧ (i = 0 ∨ q + i ≤ s.size)) (fun _ y => 10 - (intOf y).toNat)
  case atStart => exact ⟨0, 0, rfl, by omega, rfl, ⟨by decide, by decide, HR.out⟩, .inl rfl⟩
  case round =>
    obtain ⟨u, i, rfl, hi, rfl, HU, hq'⟩ := hrel
    have HI := Lib.hid hq'
    clear hq'
    by_cases hi10 : i < 10
    · by_cases hfar : s.size ≤ q + i
      · have hf2 : (s.size : Int) - i ≤ q := by omega
        have HF := Lib.hid (f_far hi10 HU.out.2.2 hfar)
        clear hfar
        go_wp2
        refine bodyPost_ret (v := .agg #[.int .i64 0, .int .i64 0, .int .i64 4]) (by simp [results, Tryd.results14, go_sem]) rfl ⟨numV_is HF.out, (Below.refl _ _).alloc (Nat.le_refl _) _⟩
      · have hlt : q + i < s.size := by omega
        have hf2 : (q : Int) < (s.size : Int) - i := by omega
        have hc : (s[q + i].toNat : Int) ≤ 255 := by have := s[q + i].toNat_lt; omega
        clear hfar
        by_cases h9 : i = 9 ∧ 1 < s[q + i].toNat
        · have HF := Lib.hid (f_over h9.1 HU.out.2.2 hlt h9.2)
          have hb9 : ((i : Int) == 9) = true := by rw [h9.1]; rfl
          have h1c : 1 < (s[q + i].toNat : Int) := by omega
          clear h9
          go_wp2
          refine bodyPost_ret (v := .agg #[.int .i64 0, .int .i64 0, .int .i64 3]) (by simp [results, Tryd.results14, go_sem]) rfl ⟨numV_is HF.out, (Below.refl _ _).alloc (Nat.le_refl _) _⟩
        · have H9 := Lib.hid (show i = 9 → ¬ 1 < s[q + i].toNat from fun h h' => h9 ⟨h, h'⟩)
          have hb9 : ((i : Int) == 9) = false ∨ (((i : Int) == 9) = true ∧ (s[q + i].toNat : Int) ≤ 1) := by
            by_cases h : i = 9
            · right; refine ⟨by rw [h]; rfl, ?_⟩; have := H9.out h; omega
            · left; simpa using (show ¬ (i : Int) = 9 by omega)
          clear h9
          obtain ⟨v, hvv⟩ : ∃ v, u + s[q + i].toNat % 128 * 128 ^ i = v := ⟨_, rfl⟩
          have hO : IntKind.u64.wrap ((u : Int) + IntKind.u64.wrap ((s[q + i].toNat : Int) % 128 * 2 ^ (7 * i))) = (v : Int) := by
            rw [← hvv]; exact w_sumN s[q + i] (by omega) HU.out.1 (fun h => by have := H9.out h; omega)
          have HL := Lib.hid (show v < 18446744073709551616 by rw [← hvv]; exact sum_lt64 (by omega) HU.out.1 (by omega) (fun h => by have := H9.out h; omega))
          have hv : (v : Int) ≤ 18446744073709551615 := by have := HL.out; omega
          have HV := Lib.hid hvv
          clear hvv
          by_cases h3 : s[q + i].toNat < 128
          · have h3' : (s[q + i].toNat : Int) < 128 := by omega
            have H3 := Lib.hid h3
            clear h3
            by_cases h0 : s[q + i].toNat = 0 ∧ 0 < i
            · have HF := Lib.hid (f_zero hi10 HU.out.2.2 hlt h0.1 h0.2)
              have hz : ((s[q + i].toNat : Int) == 0) = true := by rw [h0.1]; rfl
              have hi0 : 0 < (i : Int) := by omega
              clear h0
              rcases hb9 with hb9 | ⟨hb9, hb1⟩
              all_goals
                go_wp2
                refine bodyPost_ret (v := .agg #[.int .i64 0, .int .i64 0, .int .i64 3]) (by simp [results, Tryd.results14, go_sem]) rfl ⟨numV_is HF.out, (Below.refl _ _).alloc (Nat.le_refl _) _⟩
            · have HF := Lib.hid (f_last hi10 HU.out.2.2 hlt H3.out H9.out h0 HV.out)
              have hz : ((s[q + i].toNat : Int) == 0) = false ∨ (((s[q + i].toNat : Int) == 0) = true ∧ (i : Int) ≤ 0) := by
                by_cases h : s[q + i].toNat = 0
                · right; refine ⟨by rw [h]; rfl, ?_⟩; omega
                · left; simpa using h
              clear h0
              by_cases hodd : v % 2 = 1
              · have hp : ((v : Int) % 2 == 1) = true := by simp; omega
                have HH := Lib.hid (half_odd hodd)
                clear hodd
                rcases hz with hz | ⟨hz, hi0⟩ <;> rcases hb9 with hb9 | ⟨hb9, hb1⟩
                all_goals
                  go_wp2
                  refine bodyPost_ret (v := .agg #[.int .i64 (-((v : Int) / 2) - 1), .int .i64 ((q : Int) + i + 1), .int .i64 0]) (by simp [results, Tryd.results14, go_sem]) rfl ⟨numV_is (by rw [HF.out, HH.out]), (Below.refl _ _).alloc (Nat.le_refl _) _⟩
              · have hp : ((v : Int) % 2 == 1) = false := by simp; omega
                have HH := Lib.hid (unfold_even hodd)
                clear hodd
                rcases hz with hz | ⟨hz, hi0⟩ <;> rcases hb9 with hb9 | ⟨hb9, hb1⟩
                all_goals
                  go_wp2
                  refine bodyPost_ret (v := .agg #[.int .i64 ((v : Int) / 2), .int .i64 ((q : Int) + i + 1), .int .i64 0]) (by simp [results, Tryd.results14, go_sem]) rfl ⟨numV_is (by rw [HF.out, HH.out]), (Below.refl _ _).alloc (Nat.le_refl _) _⟩
          · have h4 : 128 ≤ (s[q + i].toNat : Int) := by omega
            have HF := Lib.hid (show i < 9 → getF s (10 - (i + 1)) (q + (i + 1)) v = R from fun h => f_on h HU.out.2.2 hlt h3 HV.out)
            have HL2 := Lib.hid (show v < 128 ^ (i + 1) by rw [← HV.out]; exact sum_lt HU.out.1 (by omega))
            have HN9 := Lib.hid (show i < 9 by rcases Nat.lt_or_ge i 9 with h | h
                                               · exact h
                                               · have := H9.out (by omega); omega)
            clear h3
            rcases hb9 with hb9 | ⟨hb9, hb1⟩
            · go_wp2
              go_round
              case rel => exact ⟨v, i + 1, by go_num, by omega, rfl, ⟨HL2.out, HL.out, HF.out HN9.out⟩, .inr (by omega)⟩
              case measure => simp [intOf]; omega
            · omega
    · have HF := Lib.hid (f_end hi10 HU.out.2.2)
      go_wp2
      refine bodyPost_ret (v := .agg #[.int .i64 0, .int .i64 0, .int .i64 3]) (by simp [results, Tryd.results14, go_sem]) rfl ⟨numV_is HF.out, (Below.refl _ _).alloc (Nat.le_refl _) _⟩
end Go.Proofs.YtejkeoahdienmaaDoor
