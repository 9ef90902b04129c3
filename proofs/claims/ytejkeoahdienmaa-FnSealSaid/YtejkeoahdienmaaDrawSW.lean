/- Walks: spec.DrawSeal: some text of at most 19997 bytes. -/
import Derived.Test.YtejkeoahdienmaaDrawW
namespace Go.Proofs.Ytejkeoahdienmaa
open Go.RowKit

theorem OwnB.zeros {w : World} {base g n m : Nat} (h : w.ownsRow base 5 1 (.slice (some ⟨g, 0, none⟩) n n) n (madeCells (Value.int .u8 0).cells m).toList) : ∃ l : List UInt8, l.length = n ∧ OwnB w base (.slice (some ⟨g, 0, none⟩) n n) l := by
  have hl := h.1
  have e : (madeCells (Value.int .u8 0).cells m).toList = List.replicate m (.int .u8 0) := toList_madeCells_one _ _
  rw [e] at h hl
  have hm : m = n := by simpa using hl
  subst hm
  refine ⟨List.replicate m 0, by simp, ?_⟩
  unfold OwnB cellsB
  simpa using h

set_option maxRecDepth 100000 in
set_option maxHeartbeats 1000000 in
theorem drawText_any (w : World) (a : Option Addr) (len cap : Nat) (hr : RowB w a len w.heap.size) (hlen : len ≤ 1048576) :
    Calls Try.prog 11 #[.slice a len cap] w fun e w' => ∃ u : ByteArray, e = .returned (.string u) ∧ u.size ≤ 19997 ∧ Below w.heap.size w w' := by
  have HR := Lib.hid hr
  clear hr
  obtain ⟨i0, hi, hz0, hz1, hz2⟩ := info_parts u8_info
  go_enter Try.func11, Try.ntmps11
  go_wp2_with fail
  refine (source_any w a len cap HR.out hlen).mono ?_
  rintro e w1 ⟨rfl, hs, hb, hz⟩
  have HS := Lib.hid hs
  have HB := Lib.hid hb
  clear hs hb
  go_wp2_with fail
  refine (one_any w.heap.size w.heap.size 30 _ (by decide) a len cap HS.out (HR.out.below HB.out)).mono ?_
  rintro e w2 ⟨v, rfl, hs2, hon2⟩
  have HS2 := Lib.hid hs2
  have HB2 := Lib.hid (HB.out.trans (hon2.below (Nat.le_refl _) (Nat.le_of_lt hz)))
  have hz2' : w.heap.size < w2.heap.size := by have := hon2.2; omega
  clear hs2 hon2 hz
  cases v
  · go_wp2_with fail
    refine (n_any w.heap.size w.heap.size 20 _ (by decide) a len cap HS2.out (HR.out.below HB2.out)).mono ?_
    rintro e w3 ⟨n, rfl, hn0, hn1, hs3, hon3⟩
    have HS3 := Lib.hid hs3
    have HB3 := Lib.hid (HB2.out.trans (hon3.below (Nat.le_refl _) (Nat.le_of_lt hz2')))
    have hz3 : w.heap.size < w3.heap.size := by have := hon3.2; omega
    have hn2 : n ≤ 19 := by omega
    clear hs3 hon3 hn1
    go_wp2_with fail
    refine (bytes_any w.heap.size w.heap.size n _ (by omega) a len cap HS3.out (HR.out.below HB3.out) (Nat.le_refl _) hz3).mono ?_
    rintro e w4 ⟨l, rfl, hl, hs4, hg4⟩
    have HB4 := Lib.hid (HB3.out.trans (grown_below hg4 (Nat.le_refl _) (Nat.le_of_lt hz3)))
    have HL := Lib.hid hl
    clear hs4 hg4 hl
    go_wp2_with fail
    go_ret
    exact ⟨_, rfl, by show l.toArray.size ≤ _; have := HL.out; simp; omega, HB4.out⟩
  · go_wp2_with fail
    refine (n_any w.heap.size w.heap.size 3 _ (by decide) a len cap HS2.out (HR.out.below HB2.out)).mono ?_
    rintro e w3 ⟨n, rfl, hn0, hn1, hs3, hon3⟩
    have HB3 := Lib.hid (HB2.out.trans (hon3.below (Nat.le_refl _) (Nat.le_of_lt hz2')))
    have hz3 : w.heap.size < w3.heap.size := by have := hon3.2; omega
    have hn2 : n ≤ 2 := by omega
    clear hs3 hon3 hn1
    obtain ⟨k, rfl⟩ := Int.eq_ofNat_of_zero_le hn0
    go_wp2_with (at_make; go_must (refine wpList_make_full _ rfl _ _ 22 rfl w.heap.size 5 i0 (.int .u8 0) 1 Try.underlying22 hi hz0 hz1 .i64 .i64 _ _ (k + 19995) rfl rfl ?_ ?_ ?_ ?_ (Nat.le_of_lt hz3) ?_))
    · omega
    · omega
    · rw [hz2]; omega
    · unfold maxLen; omega
    intro w4 hown hgr
    obtain ⟨l, hl, ho⟩ := OwnB.zeros hown
    have hst := ho.str
    have HB4 := Lib.hid (HB3.out.grown hgr (Nat.le_of_lt hz3) (fun k hk => by cases hk))
    have HL := Lib.hid hl
    clear hown hgr ho hl
    go_wp2_with fail
    go_ret
    exact ⟨_, rfl, by show l.toArray.size ≤ _; have := HL.out; simp; omega, HB4.out⟩
end Go.Proofs.Ytejkeoahdienmaa
