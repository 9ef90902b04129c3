/- Walks: laws.lwAt, spec.DrawCrcMore. -/
import Derived.Test.YtejkeoahdienmaaEdgeW
import Derived.Test.YtejkeoahdienmaaCrcW
namespace Go.Proofs.Ytejkeoahdienmaa
open Go.RowKit

set_option maxRecDepth 100000 in
set_option maxHeartbeats 400000 in
theorem lwAt_any (a : Option Addr) (len cap p : Nat) (most : Int) (B : Nat) (w : World) (hr : RowB w a len B) (hl : len ≤ 1048576) (hp : p ≤ 1000) (hm : most ≤ 1099511627776) :
    Calls Try.prog 14 #[.slice a len cap, .int .i64 p, .int .i64 most] w fun e w' => (∃ v : Int, e = .returned (.int .i64 v) ∧ 0 ≤ v ∧ (v < most ∨ v = 0)) ∧ w = w' := by
  by_cases h1 : most ≤ 1
  · go_enter Try.func14, Try.ntmps14
    go_wp2
    go_ret
    exact ⟨⟨0, rfl, by omega, .inr rfl⟩, rfl⟩
  · have h1' : 1 < most := by omega
    by_cases h0 : len = 0
    · have hz : ((len : Int) == 0) = true := by rw [h0]; rfl
      clear h0
      go_enter Try.func14, Try.ntmps14
      go_wp2
      go_ret
      exact ⟨⟨0, rfl, by omega, .inr rfl⟩, rfl⟩
    · rcases hr.2 with h | ⟨ab, off, rfl, _, hc⟩
      · exact absurd h h0
      · have hpos : 0 < len := by omega
        have hlt : p % len < len := Nat.mod_lt _ hpos
        obtain ⟨c, c0, c1, hcell⟩ := hc (p % len) hlt
        have hz : ((len : Int) == 0) = false := by simpa using h0
        have hlI : (len : Int) ≤ 1048576 := by omega
        have hpI : (1 : Int) ≤ len := by omega
        have HM := Lib.hid (mod_lo c h1')
        have HH := Lib.hid (mod_hi c h1')
        clear h0 hc hr
        go_enter Try.func14, Try.ntmps14
        go_wp2
        go_ret
        exact ⟨⟨c % most, rfl, HM.out, .inl HH.out⟩, rfl⟩

set_option maxRecDepth 100000 in
set_option maxHeartbeats 1000000 in
theorem drawCrc_any (w : World) (a : Option Addr) (len cap : Nat) (hr : RowB w a len w.heap.size) (hlen : len ≤ 1048576) :
    Calls Try.prog 16 #[.slice a len cap] w fun e w' => ∃ (v : Int) (u : ByteArray), e = .returned (.tuple #[.int .i64 v, .string u]) ∧ u.size ≤ 8 ∧ Below w.heap.size w w' := by
  have HR := Lib.hid hr
  clear hr
  go_enter Try.func16, Try.ntmps16
  go_wp2_with fail
  refine (source_any w a len cap HR.out hlen).mono ?_
  rintro e w1 ⟨rfl, hs, hb, hz⟩
  have HS := Lib.hid hs
  have HB := Lib.hid hb
  clear hs hb
  go_wp2_with fail
  refine (n_any w.heap.size w.heap.size 9 _ (by decide) a len cap HS.out (HR.out.below HB.out)).mono ?_
  rintro e w2 ⟨n, rfl, hn0, hn1, hs2, hon2⟩
  have HS2 := Lib.hid hs2
  have HB2 := Lib.hid (HB.out.trans (hon2.below (Nat.le_refl _) (Nat.le_of_lt hz)))
  have hz2 : w.heap.size < w2.heap.size := by have := hon2.2; omega
  have hn2 : n ≤ 8 := by omega
  clear hs2 hon2 hz hn1
  go_wp2_with fail
  refine (bytes_any w.heap.size w.heap.size n _ (by omega) a len cap HS2.out (HR.out.below HB2.out) (Nat.le_refl _) hz2).mono ?_
  rintro e w3 ⟨l, rfl, hl, hs3, hg3⟩
  have HS3 := Lib.hid hs3
  have HB3 := Lib.hid (HB2.out.trans (grown_below hg3 (Nat.le_refl _) (Nat.le_of_lt hz2)))
  have hz3 : w.heap.size < w3.heap.size := by have := hg3.size; omega
  obtain ⟨u, HU⟩ : ∃ u, Hid ((⟨l.toArray⟩ : ByteArray) = u) := ⟨_, rfl⟩
  have hu : u.size ≤ 8 := by rw [← HU.out]; show l.toArray.size ≤ 8; simp; omega
  rw [HU.out]
  clear hs3 hg3 hl hz2 hn0 hn2
  go_wp2_with fail
  refine (one_any w.heap.size w.heap.size 5 _ (by decide) a len cap HS3.out (HR.out.below HB3.out)).mono ?_
  rintro e w4 ⟨v, rfl, hs4, hon4⟩
  have HS4 := Lib.hid hs4
  have HB4 := Lib.hid (HB3.out.trans (hon4.below (Nat.le_refl _) (Nat.le_of_lt hz3)))
  have hz4 : w.heap.size < w4.heap.size := by have := hon4.2; omega
  clear hs4 hon4 hz3
  cases v
  · go_wp2_with fail
    refine (n_any w.heap.size w.heap.size 9 _ (by decide) a len cap HS4.out (HR.out.below HB4.out)).mono ?_
    rintro e w5 ⟨n, rfl, hn0, hn1, hs5, hon5⟩
    have HS5 := Lib.hid hs5
    have HB5 := Lib.hid (HB4.out.trans (hon5.below (Nat.le_refl _) (Nat.le_of_lt hz4)))
    have hz5 : w.heap.size < w5.heap.size := by have := hon5.2; omega
    have hn2 : n ≤ 8 := by omega
    clear hs5 hon5 hz4 hn1
    go_wp2_with fail
    refine (bytes_any w.heap.size w.heap.size n _ (by omega) a len cap HS5.out (HR.out.below HB5.out) (Nat.le_refl _) hz5).mono ?_
    rintro e w6 ⟨l', rfl, hl', hs6, hg6⟩
    have HB6 := Lib.hid (HB5.out.trans (grown_below hg6 (Nat.le_refl _) (Nat.le_of_lt hz5)))
    obtain ⟨u', HU'⟩ : ∃ u', Hid ((⟨l'.toArray⟩ : ByteArray) = u') := ⟨_, rfl⟩
    have hu' : u'.size ≤ maxLen := by rw [← HU'.out]; show l'.toArray.size ≤ maxLen; unfold maxLen; simp; omega
    rw [HU'.out]
    clear hs6 hg6 hl' hz5 hn0 hn2
    go_wp2_with fail
    refine (specCrc_any u' _ hu').mono ?_
    rintro e w7 ⟨rfl, rfl⟩
    go_wp2_with fail
    go_ret2
    exact ⟨_, u, rfl, hu, HB6.out⟩
  · go_wp2_with fail
    refine (edge_any w.heap.size w.heap.size _ a len cap HS4.out (HR.out.below HB4.out) (Nat.le_refl _) hz4).mono ?_
    rintro e w5 ⟨v, rfl, hv, hb5⟩
    clear hv
    go_wp2_with fail
    go_ret2
    exact ⟨v, u, rfl, hu, HB4.out.trans hb5⟩
end Go.Proofs.Ytejkeoahdienmaa
