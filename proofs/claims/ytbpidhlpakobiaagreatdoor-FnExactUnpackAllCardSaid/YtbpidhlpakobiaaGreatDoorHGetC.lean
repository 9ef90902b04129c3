/- Walks: spec.GetNum. · Walks: spec.GetNum, at any bytes. · Walks: spec.GetText. -/
import Derived.Test.YtbpidhlpakobiaaGreatDoorHRdB
namespace Go.Proofs.YtbpidhlpakobiaaGreatDoor
open Go.RowKit

def numV (R : Int × Int × Int) : Value := .agg #[.int .i64 R.1, .int .i64 R.2.1, .int .i64 R.2.2]
theorem numV_is {R : Int × Int × Int} {a b c : Int} (h : R = (a, b, c)) : Ending.returned (.agg #[.int .i64 a, .int .i64 b, .int .i64 c]) = .returned (numV R) := by subst h; rfl

set_option maxRecDepth 100000 in
set_option maxHeartbeats 1000000 in
theorem specGet_any (s : ByteArray) (q : Nat) (w : World) (hs : s.size ≤ 8000) (hq : q ≤ 9223372036854775807) :
    Calls Tryz.prog 114 #[.string s, .int .i64 q] w fun e w' => e = .returned (numV (getF s 10 q 0)) ∧ Below w.heap.size w w' := by
  obtain ⟨R, HR⟩ : ∃ R, Hid (getF s 10 q 0 = R) := ⟨_, rfl⟩
  rw [HR.out]
  have h1 : (s.size : Int) ≤ 8000 := by omega
  have h2 : (q : Int) ≤ 9223372036854775807 := by omega
  go_enter Tryz.func114, Tryz.ntmps114
  go_wp2
  go_loop [5, 6] (fun x y => ∃ (u i : Nat), y = .int .i64 i ∧ i ≤ 10 ∧ x = .int .u64 u ∧ Hid (u < 128 ^ i ∧ u < 18446744073709551616 ∧ getF s (10 - i) (q + i) u = R) ∧ (i = 0 ∨ q + i ≤ s.size)) (fun _ y => 10 - (intOf y).toNat)
  case atStart => exact ⟨0, 0, rfl, by omega, rfl, ⟨by decide, by decide, HR.out⟩, .inl rfl⟩
  case round =>
    obtain ⟨u, i, rfl, hi, rfl, HU, hq'⟩ := hrel
    have HI := Lib.hid hq'
    clear hq'
    by_cases hi10 : i < 10
    · by_cases hfar : s.size ≤ q + i
      · have hf2 : (s.size : Int) - i ≤ q := by omega
        have HF := Lib.hid (f_far hi10 HU.out.2.2 hfar)
        clear hfar
        go_wp2
        refine bodyPost_ret (v := .agg #[.int .i64 0, .int .i64 0, .int .i64 4]) (by simp [results, Tryz.results114, go_sem]) rfl ⟨numV_is HF.out, (Below.refl _ _).alloc (Nat.le_refl _) _⟩
      · have hlt : q + i < s.size := by omega
        have hf2 : (q : Int) < (s.size : Int) - i := by omega
        have hc : (s[q + i].toNat : Int) ≤ 255 := by have := s[q + i].toNat_lt; omega
        clear hfar
        by_cases h9 : i = 9 ∧ 1 < s[q + i].toNat
        · have HF := Lib.hid (f_over h9.1 HU.out.2.2 hlt h9.2)
          have hb9 : ((i : Int) == 9) = true := by rw [h9.1]; rfl
          have h1c : 1 < (s[q + i].toNat : Int) := by omega
          clear h9
          go_wp2
          refine bodyPost_ret (v := .agg #[.int .i64 0, .int .i64 0, .int .i64 3]) (by simp [results, Tryz.results114, go_sem]) rfl ⟨numV_is HF.out, (Below.refl _ _).alloc (Nat.le_refl _) _⟩
        · have H9 := Lib.hid (show i = 9 → ¬ 1 < s[q + i].toNat from fun h h' => h9 ⟨h, h'⟩)
          have hb9 : ((i : Int) == 9) = false ∨ (((i : Int) == 9) = true ∧ (s[q + i].toNat : Int) ≤ 1) := by
            by_cases h : i = 9
            · right; refine ⟨by rw [h]; rfl, ?_⟩; have := H9.out h; omega
            · left; simpa using (show ¬ (i : Int) = 9 by omega)
          clear h9
          obtain ⟨v, hvv⟩ : ∃ v, u + s[q + i].toNat % 128 * 128 ^ i = v := ⟨_, rfl⟩
          have hO : IntKind.u64.wrap ((u : Int) + IntKind.u64.wrap ((s[q + i].toNat : Int) % 128 * 2 ^ (7 * i))) = (v : Int) := by
            rw [← hvv]; exact w_sumN s[q + i] (by omega) HU.out.1 (fun h => by have := H9.out h; omega)
          have HL := Lib.hid (show v < 18446744073709551616 by rw [← hvv]; exact sum_lt64 (by omega) HU.out.1 (by omega) (fun h => by have := H9.out h; omega))
          have hv : (v : Int) ≤ 18446744073709551615 := by have := HL.out; omega
          have HV := Lib.hid hvv
          clear hvv
          by_cases h3 : s[q + i].toNat < 128
          · have h3' : (s[q + i].toNat : Int) < 128 := by omega
            have H3 := Lib.hid h3
            clear h3
            by_cases h0 : s[q + i].toNat = 0 ∧ 0 < i
            · have HF := Lib.hid (f_zero hi10 HU.out.2.2 hlt h0.1 h0.2)
              have hz : ((s[q + i].toNat : Int) == 0) = true := by rw [h0.1]; rfl
              have hi0 : 0 < (i : Int) := by omega
              clear h0
              rcases hb9 with hb9 | ⟨hb9, hb1⟩
              all_goals
                go_wp2
                refine bodyPost_ret (v := .agg #[.int .i64 0, .int .i64 0, .int .i64 3]) (by simp [results, Tryz.results114, go_sem]) rfl ⟨numV_is HF.out, (Below.refl _ _).alloc (Nat.le_refl _) _⟩
            · have HF := Lib.hid (f_last hi10 HU.out.2.2 hlt H3.out H9.out h0 HV.out)
              have hz : ((s[q + i].toNat : Int) == 0) = false ∨ (((s[q + i].toNat : Int) == 0) = true ∧ (i : Int) ≤ 0) := by
                by_cases h : s[q + i].toNat = 0
                · right; refine ⟨by rw [h]; rfl, ?_⟩; omega
                · left; simpa using h
              clear h0
              by_cases hodd : v % 2 = 1
              · have hp : ((v : Int) % 2 == 1) = true := by simp; omega
                have HH := Lib.hid (half_odd hodd)
                clear hodd
                rcases hz with hz | ⟨hz, hi0⟩ <;> rcases hb9 with hb9 | ⟨hb9, hb1⟩
                all_goals
                  go_wp2
                  refine bodyPost_ret (v := .agg #[.int .i64 (-((v : Int) / 2) - 1), .int .i64 ((q : Int) + i + 1), .int .i64 0]) (by simp [results, Tryz.results114, go_sem]) rfl ⟨numV_is (by rw [HF.out, HH.out]), (Below.refl _ _).alloc (Nat.le_refl _) _⟩
              · have hp : ((v : Int) % 2 == 1) = false := by simp; omega
                have HH := Lib.hid (unfold_even hodd)
                clear hodd
                rcases hz with hz | ⟨hz, hi0⟩ <;> rcases hb9 with hb9 | ⟨hb9, hb1⟩
                all_goals
                  go_wp2
                  refine bodyPost_ret (v := .agg #[.int .i64 ((v : Int) / 2), .int .i64 ((q : Int) + i + 1), .int .i64 0]) (by simp [results, Tryz.results114, go_sem]) rfl ⟨numV_is (by rw [HF.out, HH.out]), (Below.refl _ _).alloc (Nat.le_refl _) _⟩
          · have h4 : 128 ≤ (s[q + i].toNat : Int) := by omega
            have HF := Lib.hid (show i < 9 → getF s (10 - (i + 1)) (q + (i + 1)) v = R from fun h => f_on h HU.out.2.2 hlt h3 HV.out)
            have HL2 := Lib.hid (show v < 128 ^ (i + 1) by rw [← HV.out]; exact sum_lt HU.out.1 (by omega))
            have HN9 := Lib.hid (show i < 9 by rcases Nat.lt_or_ge i 9 with h | h
                                               · exact h
                                               · have := H9.out (by omega); omega)
            clear h3
            rcases hb9 with hb9 | ⟨hb9, hb1⟩
            · go_wp2
              go_round
              case rel => exact ⟨v, i + 1, by go_num, by omega, rfl, ⟨HL2.out, HL.out, HF.out HN9.out⟩, .inr (by omega)⟩
              case measure => simp [intOf]; omega
            · omega
    · have HF := Lib.hid (f_end hi10 HU.out.2.2)
      go_wp2
      refine bodyPost_ret (v := .agg #[.int .i64 0, .int .i64 0, .int .i64 3]) (by simp [results, Tryz.results114, go_sem]) rfl ⟨numV_is HF.out, (Below.refl _ _).alloc (Nat.le_refl _) _⟩
end Go.Proofs.YtbpidhlpakobiaaGreatDoor
namespace Go.Proofs.YtbpidhlpakobiaaGreatDoor.getL
open Go.RowKit

theorem inI64 {a : Int} (h : (Lit.int .i64 a).wf = true) : InI64 a := by
  simp [Lit.wf, IntKind.min, IntKind.max, IntKind.signed, IntKind.bits] at h
  unfold InI64; omega

/-- What GetNum tells. -/
def getAll (s : ByteArray) (p : Int) : Int × Int × Int := if 8000 < s.size then (0, 0, 2) else getRes s p

set_option maxRecDepth 100000 in
theorem specGet_long (s : ByteArray) (p : Int) (w : World) (hs : s.size ≤ maxLen) (h : 8000 < s.size) :
    Calls Tryz.prog 114 #[.string s, .int .i64 p] w fun e w' => e = .returned (numV (0, 0, 2)) ∧ Below w.heap.size w w' := by
  unfold maxLen at hs
  have h1 : (8000 : Int) < s.size := by omega
  go_enter Tryz.func114, Tryz.ntmps114
  go_wp2
  refine bodyPost_ret (v := .agg #[.int .i64 0, .int .i64 0, .int .i64 2]) (by simp [results, Tryz.results114, go_sem]) rfl ⟨rfl, (Below.refl _ _).alloc (Nat.le_refl _) _⟩
set_option maxRecDepth 100000 in
theorem specGet_neg (s : ByteArray) (p : Int) (w : World) (hs : s.size ≤ 8000) (h : p < 0) :
    Calls Tryz.prog 114 #[.string s, .int .i64 p] w fun e w' => e = .returned (numV (0, 0, 1)) ∧ Below w.heap.size w w' := by
  have h1 : (s.size : Int) ≤ 8000 := by omega
  go_enter Tryz.func114, Tryz.ntmps114
  go_wp2
  refine bodyPost_ret (v := .agg #[.int .i64 0, .int .i64 0, .int .i64 1]) (by simp [results, Tryz.results114, go_sem]) rfl ⟨rfl, (Below.refl _ _).alloc (Nat.le_refl _) _⟩

theorem specGet_all (s : ByteArray) (p : Int) (w : World) (hs : s.size ≤ maxLen) (hp : InI64 p) :
    Calls Tryz.prog 114 #[.string s, .int .i64 p] w fun e w' => e = .returned (numV (getAll s p)) ∧ Below w.heap.size w w' := by
  unfold getAll
  by_cases h : 8000 < s.size
  · rw [if_pos h]; exact specGet_long s p w hs h
  · rw [if_neg h]
    unfold getRes
    by_cases h0 : p < 0
    · rw [if_pos h0]; exact specGet_neg s p w (by omega) h0
    · rw [if_neg h0]
      obtain ⟨q, rfl⟩ := Int.eq_ofNat_of_zero_le (show 0 ≤ p by omega)
      exact specGet_any s q w (by omega) (by unfold InI64 at hp; omega)
end Go.Proofs.YtbpidhlpakobiaaGreatDoor.getL
namespace Go.Proofs.YtbpidhlpakobiaaGreatDoor
open Go.RowKit getL

def textAll (s : ByteArray) (p : Int) : ByteArray × Int × Int := if 8000 < s.size then (⟨#[]⟩, 0, 2) else textRes s p
def textVal (R : ByteArray × Int × Int) : Value := .agg #[.string R.1, .int .i64 R.2.1, .int .i64 R.2.2]
theorem textVal_is {R : ByteArray × Int × Int} {a : ByteArray} {b c : Int} (h : R = (a, b, c)) : Ending.returned (.agg #[.string a, .int .i64 b, .int .i64 c]) = .returned (textVal R) := by subst h; rfl

/-- What the walk is told of the number that stands there. -/
theorem all_of {s : ByteArray} {p n q c : Int} (h : getAll s p = (n, q, c)) : (c ≠ 0 → textAll s p = (⟨#[]⟩, 0, c)) ∧
    (c = 0 → 0 ≤ q ∧ q ≤ s.size ∧ s.size ≤ 8000 ∧ ((n < 0 ∨ 8000 < n) → textAll s p = (⟨#[]⟩, 0, 3)) ∧ (¬ (n < 0 ∨ 8000 < n) → (s.size : Int) < q + n → textAll s p = (⟨#[]⟩, 0, 4)) ∧
      (¬ (n < 0 ∨ 8000 < n) → ¬ (s.size : Int) < q + n → textAll s p = (s.extract q.toNat (q + n).toNat, q + n, 0))) := by
  unfold getAll at h
  unfold textAll
  by_cases hl : 8000 < s.size
  · rw [if_pos hl] at h ⊢
    simp only [Prod.mk.injEq] at h
    obtain ⟨rfl, rfl, rfl⟩ := h
    exact ⟨fun _ => rfl, fun h => absurd h (by decide)⟩
  · rw [if_neg hl] at h ⊢
    have h1 : (getRes s p).1 = n := by rw [h]
    have h2 : (getRes s p).2.1 = q := by rw [h]
    have h3 : (getRes s p).2.2 = c := by rw [h]
    refine ⟨fun hc => text_num h3 hc, fun hc => ?_⟩
    subst hc
    have hp := res_place h3
    rw [h2] at hp
    exact ⟨hp.1, hp.2, by omega, fun hn => text_size h3 h1 hn, fun hn hs => text_short h3 h1 h2 hn hs, fun hn hs => text_ok h3 h1 h2 hn hs⟩

set_option maxRecDepth 100000 in
set_option maxHeartbeats 1000000 in
theorem specText_any (s : ByteArray) (p : Int) (w : World) (hs : s.size ≤ maxLen) (hp : InI64 p) :
    Calls Tryz.prog 113 #[.string s, .int .i64 p] w fun e w' => e = .returned (textVal (textAll s p)) ∧ Below w.heap.size w w' := by
  obtain ⟨T, HT⟩ : ∃ T, Hid (textAll s p = T) := ⟨_, rfl⟩
  obtain ⟨⟨n, q, c⟩, hnq⟩ : ∃ x : Int × Int × Int, getAll s p = x := ⟨_, rfl⟩
  have h1 : ∀ w, Calls Tryz.prog 114 #[.string s, .int .i64 p] w fun e w' => e = .returned (.agg #[.int .i64 n, .int .i64 q, .int .i64 c]) ∧ Below w.heap.size w w' := fun w => by
    refine (specGet_all s p w hs hp).mono fun e w' ⟨he, hb⟩ => ⟨?_, hb⟩
    rw [he, hnq]; rfl
  have H1 := Lib.hid h1
  have HA := Lib.hid (all_of hnq)
  rw [HT.out]
  clear h1 hnq hp hs
  by_cases hc : c = 0
  · have HB := Lib.hid (HA.out.2 hc)
    obtain ⟨hq0, hq1, hs1, _⟩ := HA.out.2 hc
    have hs2 : (s.size : Int) ≤ 8000 := by omega
    subst hc
    by_cases h1 : n < 0 ∨ 8000 < n
    · have HP := Lib.hid (HT.out.symm.trans (HB.out.2.2.2.1 h1))
      have h1' : n < 0 ∨ (0 ≤ n ∧ 8000 < n) := by omega
      clear h1
      rcases h1' with h1 | ⟨h0, h1⟩
      all_goals
        go_enter Tryz.func113, Tryz.ntmps113
        go_wp2_with fail
        refine (H1.out _).mono ?_
        rintro e w1 ⟨rfl, hb1⟩
        obtain ⟨hc, hf⟩ := bcell hb1
        have hz : w.heap.size < w1.heap.size := by have := hb1.size; simp at this; omega
        go_wp2_with fail
        refine bodyPost_ret (v := .agg #[.string ⟨#[]⟩, .int .i64 0, .int .i64 3]) (by simp [results, Tryz.results113, go_sem, hc, hz]) rfl ⟨textVal_is HP.out, (below3 rfl hb1 (by simp) _ _ _).alloc (by simp; omega) _⟩
    · have hn0 : 0 ≤ n := by omega
      have hn1 : n ≤ 8000 := by omega
      by_cases h2 : (s.size : Int) < q + n
      · have HP := Lib.hid (HT.out.symm.trans (HB.out.2.2.2.2.1 h1 h2))
        have h3 : (s.size : Int) - n < q := by omega
        clear h1 h2
        go_enter Tryz.func113, Tryz.ntmps113
        go_wp2_with fail
        refine (H1.out _).mono ?_
        rintro e w1 ⟨rfl, hb1⟩
        obtain ⟨hc, hf⟩ := bcell hb1
        have hz : w.heap.size < w1.heap.size := by have := hb1.size; simp at this; omega
        go_wp2_with fail
        refine bodyPost_ret (v := .agg #[.string ⟨#[]⟩, .int .i64 0, .int .i64 4]) (by simp [results, Tryz.results113, go_sem, hc, hz]) rfl ⟨textVal_is HP.out, (below3 rfl hb1 (by simp) _ _ _).alloc (by simp; omega) _⟩
      · have HP := Lib.hid (HT.out.symm.trans (HB.out.2.2.2.2.2 h1 h2))
        have h3 : q ≤ (s.size : Int) - n := by omega
        have h4 : q + n ≤ (s.size : Int) := by omega
        clear h1 h2
        obtain ⟨k, rfl⟩ := Int.eq_ofNat_of_zero_le hq0
        obtain ⟨m, rfl⟩ := Int.eq_ofNat_of_zero_le hn0
        go_enter Tryz.func113, Tryz.ntmps113
        go_wp2_with fail
        refine (H1.out _).mono ?_
        rintro e w1 ⟨rfl, hb1⟩
        obtain ⟨hc, hf⟩ := bcell hb1
        have hz : w.heap.size < w1.heap.size := by have := hb1.size; simp at this; omega
        go_wp2_with fail
        go_region
        all_goals go_wp2
        all_goals refine bodyPost_ret (v := .agg #[.string (s.extract k (k + m)), .int .i64 ((k : Int) + m), .int .i64 0]) (by simp [results, Tryz.results113, go_sem, hc, hz]) rfl ⟨textVal_is HP.out, ?_⟩
        all_goals exact ((below3 rfl hb1 (by simp) _ _ _).alloc (by simp; omega) _).drew
  · have HP := Lib.hid (HT.out.symm.trans (HA.out.1 hc))
    have hc0 : (c == 0) = false := by simpa using hc
    have hc1 : (c != 0) = true := by simpa using hc
    clear hc
    go_enter Tryz.func113, Tryz.ntmps113
    go_wp2_with fail
    refine (H1.out _).mono ?_
    rintro e w1 ⟨rfl, hb1⟩
    obtain ⟨hc, hf⟩ := bcell hb1
    have hz : w.heap.size < w1.heap.size := by have := hb1.size; simp at this; omega
    go_wp2_with fail
    refine bodyPost_ret (v := .agg #[.string ⟨#[]⟩, .int .i64 0, .int .i64 c]) (by simp [results, Tryz.results113, go_sem, hc, hz]) rfl ⟨textVal_is HP.out, (below3 rfl hb1 (by simp) _ _ _).alloc (by simp; omega) _⟩
end Go.Proofs.YtbpidhlpakobiaaGreatDoor
