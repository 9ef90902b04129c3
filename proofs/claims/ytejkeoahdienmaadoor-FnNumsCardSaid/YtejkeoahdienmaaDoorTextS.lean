/- Walks: spec.GetText. -/
import Derived.Test.YtejkeoahdienmaaDoorGetL
import Derived.Test.YtejkeoahdienmaaDoorTextR
namespace Go.Proofs.YtejkeoahdienmaaDoor
open Go.RowKit getL

def textAll (s : ByteArray) (p : Int) : ByteArray × Int × Int := if 8000 < s.size then (⟨#[]⟩, 0, 2) else textRes s p
def textVal (R : ByteArray × Int × Int) : Value := .agg #[.string R.1, .int .i64 R.2.1, .int .i64 R.2.2]
theorem textVal_is {R : ByteArray × Int × Int} {a : ByteArray} {b c : Int} (h : R = (a, b, c)) : Ending.returned (.agg #[.string a, .int .i64 b, .int .i64 c]) = .returned (textVal R) := by subst h; rfl

/-- What the walk is told of the number that stands there. -/
theorem all_of {s : ByteArray} {p n q c : Int} (h : getAll s p = (n, q, c)) : (c ≠ 0 → textAll s p = (⟨#[]⟩, 0, c)) ∧
    (c = 0 → 0 ≤ q ∧ q ≤ s.size ∧ s.size ≤ 8000 ∧ ((n < 0 ∨ 8000 < n) → textAll s p = (⟨#[]⟩, 0, 3)) ∧ (¬ (n < 0 ∨ 8000 < n) → (s.size : Int) < q + n → textAll s p = (⟨#[]⟩, 0, 4)) ∧
      (¬ (n < 0 ∨ 8000 < n) → ¬ (s.size : Int) < q + n → textAll s p = (s.extract q.toNat (q + n).toNat, q + n, 0))) := by
  unfold getAll at h
  unfold textAll
  by_cases hl : 8000 < s.size
  · rw [if_pos hl] at h ⊢
    simp only [Prod.mk.injEq] at h
    obtain ⟨rfl, rfl, rfl⟩ := h
    exact ⟨fun _ => rfl, fun h => absurd h (by decide)⟩
  · rw [if_neg hl] at h ⊢
    have h1 : (getRes s p).1 = n := by rw [h]
    have h2 : (getRes s p).2.1 = q := by rw [h]
    have h3 : (getRes s p).2.2 = c := by rw [h]
    refine ⟨fun hc => text_num h3 hc, fun hc => ?_⟩
    subst hc
    have hp := res_place h3
    rw [h2] at hp
    exact ⟨hp.1, hp.2, by omega, fun hn => text_size h3 h1 hn, fun hn hs => text_short h3 h1 h2 hn hs, fun hn hs => text_ok h3 h1 h2 hn hs⟩

set_option maxRecDepth 100000 in
set_option maxHeartbeats 1000000 in
theorem specText_any (s : ByteArray) (p : Int) (w : World) (hs : s.size ≤ maxLen) (hp : InI64 p) :
    Calls Tryd.prog 16 #[.string s, .int .i64 p] w fun e w' => e = .returned (textVal (textAll s p)) ∧ Below w.heap.size w w' := by
  obtain ⟨T, HT⟩ : ∃ T, Hid (textAll s p = T) := ⟨_, rfl⟩
  obtain ⟨⟨n, q, c⟩, hnq⟩ : ∃ x : Int × Int × Int, getAll s p = x := ⟨_, rfl⟩
  have h1 : ∀ w, Calls Tryd.prog 14 #[.string s, .int .i64 p] w fun e w' => e = .returned (.agg #[.int .i64 n, .int .i64 q, .int .i64 c]) ∧ Below w.heap.size w w' := fun w => by
    refine (specGet_all s p w hs hp).mono fun e w' ⟨he, hb⟩ => ⟨?_, hb⟩
    rw [he, hnq]; rfl
  have H1 := Lib.hid h1
  have HA := Lib.hid (all_of hnq)
  rw [HT.out]
  clear h1 hnq hp hs
  by_cases hc : c = 0
  · have HB := Lib.hid (HA.out.2 hc)
    obtain ⟨hq0, hq1, hs1, _⟩ := HA.out.2 hc
    have hs2 : (s.size : Int) ≤ 8000 := by omega
    subst hc
    by_cases h1 : n < 0 ∨ 8000 < n
    · have HP := Lib.hid (HT.out.symm.trans (HB.out.2.2.2.1 h1))
      have h1' : n < 0 ∨ (0 ≤ n ∧ 8000 < n) := by omega
      clear h1
      rcases h1' with h1 | ⟨h0, h1⟩
      all_goals
        go_enter Tryd.func16, Tryd.ntmps16
        go_wp2_with fail
        refine (H1.out _).mono ?_
        rintro e w1 ⟨rfl, hb1⟩
        obtain ⟨hc, hf⟩ := bcell hb1
        have hz : w.heap.size < w1.heap.size := by have := hb1.size; simp at this; omega
        go_wp2_with fail
        refine bodyPost_ret (v := .agg #[.string ⟨#[]⟩, .int .i64 0, .int .i64 3]) (by simp [results, Tryd.results16, go_sem, hc, hz]) rfl ⟨textVal_is HP.out, (below3 rfl hb1 (by simp) _ _ _).alloc (by simp; omega) _⟩
    · have hn0 : 0 ≤ n := by omega
      have hn1 : n ≤ 8000 := by omega
      by_cases h2 : (s.size : Int) < q + n
      · have HP := Lib.hid (HT.out.symm.trans (HB.out.2.2.2.2.1 h1 h2))
        have h3 : (s.size : Int) - n < q := by omega
        clear h1 h2
        go_enter Tryd.func16, Tryd.ntmps16
        go_wp2_with fail
        refine (H1.out _).mono ?_
        rintro e w1 ⟨rfl, hb1⟩
        obtain ⟨hc, hf⟩ := bcell hb1
        have hz : w.heap.size < w1.heap.size := by have := hb1.size; simp at this; omega
        go_wp2_with fail
        refine bodyPost_ret (v := .agg #[.string ⟨#[]⟩, .int .i64 0, .int .i64 4]) (by simp [results, Tryd.results16, go_sem, hc, hz]) rfl ⟨textVal_is HP.out, (below3 rfl hb1 (by simp) _ _ _).alloc (by simp; omega) _⟩
      · have HP := Lib.hid (HT.out.symm.trans (HB.out.2.2.2.2.2 h1 h2))
        have h3 : q ≤ (s.size : Int) - n := by omega
        have h4 : q + n ≤ (s.size : Int) := by omega
        clear h1 h2
        obtain ⟨k, rfl⟩ := Int.eq_ofNat_of_zero_le hq0
        obtain ⟨m, rfl⟩ := Int.eq_ofNat_of_zero_le hn0
        go_enter Tryd.func16, Tryd.ntmps16
        go_wp2_with fail
        refine (H1.out _).mono ?_
        rintro e w1 ⟨rfl, hb1⟩
        obtain ⟨hc, hf⟩ := bcell hb1
        have hz : w.heap.size < w1.heap.size := by have := hb1.size; simp at this; omega
        go_wp2_with fail
        go_region
        all_goals go_wp2
        all_goals refine bodyPost_ret (v := .agg #[.string (s.extract k (k + m)), .int .i64 ((k : Int) + m), .int .i64 0]) (by simp [results, Tryd.results16, go_sem, hc, hz]) rfl ⟨textVal_is HP.out, ?_⟩
        all_goals exact ((below3 rfl hb1 (by simp) _ _ _).alloc (by simp; omega) _).drew
  · have HP := Lib.hid (HT.out.symm.trans (HA.out.1 hc))
    have hc0 : (c == 0) = false := by simpa using hc
    have hc1 : (c != 0) = true := by simpa using hc
    clear hc
    go_enter Tryd.func16, Tryd.ntmps16
    go_wp2_with fail
    refine (H1.out _).mono ?_
    rintro e w1 ⟨rfl, hb1⟩
    obtain ⟨hc, hf⟩ := bcell hb1
    have hz : w.heap.size < w1.heap.size := by have := hb1.size; simp at this; omega
    go_wp2_with fail
    refine bodyPost_ret (v := .agg #[.string ⟨#[]⟩, .int .i64 0, .int .i64 c]) (by simp [results, Tryd.results16, go_sem, hc, hz]) rfl ⟨textVal_is HP.out, (below3 rfl hb1 (by simp) _ _ _).alloc (by simp; omega) _⟩
end Go.Proofs.YtejkeoahdienmaaDoor
