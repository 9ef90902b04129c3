/- Walks: impl.GetNum. -/
import Derived.Test.YtejkeoahdienmaaDoorReadW
import Derived.Test.YtejkeoahdienmaaDoorAsW2
import Derived.Test.YtejkeoahdienmaaDoorJoinW
namespace Go.Proofs.YtejkeoahdienmaaDoor
open Go.RowKit

/-- errors.errorType holds the handle of the type 'error'. -/
def HandleAt (w : World) : Prop := w.cell? ⟨0, 0, none⟩ = some (.iface 75 (.agg #[.pointer (some ⟨1, 45, none⟩)]))
theorem HandleAt.pos {w : World} (h : HandleAt w) : 0 < w.heap.size := by
  rcases Nat.eq_zero_or_pos w.heap.size with h0 | h1
  · unfold HandleAt at h; simp [World.cell?, h0] at h
  · exact h1
theorem HandleAt.below {w w' : World} {B : Nat} (h : HandleAt w) (hb : Below B w w') (hB : 0 < B) : HandleAt w' := by
  unfold HandleAt; rw [hb.cell (p := ⟨0, 0, none⟩) hB]; exact h
theorem HandleAt.alloc {w : World} (h : HandleAt w) (o : Obj) : HandleAt (w.alloc o) := by
  unfold HandleAt; rw [World.cell?_alloc_lt _ _ ⟨0, 0, none⟩ h.pos]; exact h

theorem res_bad {s : ByteArray} {p : Int} (h : (getRes s p).2.2 ≠ 0) : getRes s p = (0, 0, (getRes s p).2.2) := by
  have : ∀ f q u, (getF s f q u).2.2 ≠ 0 → getF s f q u = (0, 0, (getF s f q u).2.2) := by
    intro f
    induction f with
    | zero => intro q u _; rfl
    | succ f ih =>
      intro q u h
      by_cases hq : q < s.size
      · by_cases h9 : f = 0 ∧ 1 < s[q].toNat
        · have e : getF s (f + 1) q u = (0, 0, 3) := by rw [getF, dif_pos hq, if_pos h9]
          rw [e]
        · by_cases hb : s[q].toNat < 128
          · rw [getF_last hq h9 hb] at h ⊢
            by_cases hz : s[q].toNat = 0 ∧ f ≠ 9
            · rw [if_pos hz]
            · rw [if_neg hz] at h; exact absurd rfl h
          · rw [getF_more hq h9 hb] at h ⊢
            exact ih _ _ h
      · rw [getF_far (by omega)]
  unfold getRes at h ⊢
  by_cases hp : p < 0
  · rw [if_pos hp]
  · rw [if_neg hp] at h ⊢
    exact this _ _ _ h

theorem readNum_bad (s : ByteArray) (p c : Int) (w : World) (hs : s.size ≤ 8000) (h : (getRes s p).2.2 = c) (hc : c ≠ 0) :
    Calls Tryd.prog 23 #[.string s, .int .i64 p] w fun e w' => e = .returned (.tuple #[.int .i64 0, .int .i64 0, .iface 49 (.agg #[.int .i64 c])]) ∧ Below w.heap.size w w' := by
  have e := res_bad (s := s) (p := p) (by rw [h]; exact hc)
  rw [h] at e
  refine (readNum_any s p w hs).mono fun e' w' ⟨he, hb⟩ => ⟨?_, hb⟩
  rw [he, e]; simp [errV, hc]
theorem readNum_ok (s : ByteArray) (p : Int) (w : World) (hs : s.size ≤ 8000) (h : (getRes s p).2.2 = 0) :
    Calls Tryd.prog 23 #[.string s, .int .i64 p] w fun e w' => e = .returned (.tuple #[.int .i64 (getRes s p).1, .int .i64 (getRes s p).2.1, .nilIface]) ∧ Below w.heap.size w w' := by
  refine (readNum_any s p w hs).mono fun e' w' ⟨he, hb⟩ => ⟨?_, hb⟩
  rw [he, h]; simp [errV]

/-- errors.As, the way on which the error's own type is the target's: what the caller needs of it. -/
theorem as_hit2 (n : Int) (b : Nat) (old : Value) (w : World) (hg : HandleAt w) (ht0 : w.cell? ⟨b, 0, none⟩ = some old) (hf0 : w.frozen? ⟨b, 0, none⟩ = false) :
    Calls Tryd.prog 24 #[.iface 49 (.agg #[.int .i64 n]), .iface 51 (.pointer (some ⟨b, 0, none⟩))] w fun ev w' => ev = .returned (.bool true) ∧ w'.cell? ⟨b, 0, none⟩ = some (.int .i64 n) ∧ Below b w w' := by
  refine (as_hit n ⟨b, 0, none⟩ old w hg ht0 hf0).mono fun e w' ⟨he, hw⟩ => ⟨he, ?_, ?_⟩
  · have htl : b < w.heap.size := by
      rcases Nat.lt_or_ge b w.heap.size with h | h
      · exact h
      · simp [World.cell?, Array.getElem?_eq_none h] at ht0
    rw [hw]
    refine World.cell?_setCell_same _ _ _ (u := old) ?_
    rw [World.cell?_alloc_lt _ _ _ (by simp; omega), World.cell?_alloc_lt _ _ _ (by simp; omega), World.cell?_alloc_lt _ _ _ (by simp; omega), World.cell?_alloc_lt _ _ _ htl]
    exact ht0
  · have htl : b < w.heap.size := by
      rcases Nat.lt_or_ge b w.heap.size with h | h
      · exact h
      · simp [World.cell?, Array.getElem?_eq_none h] at ht0
    subst hw
    exact (((((Below.refl b w).alloc (by omega) _).alloc (by simp; omega) _).alloc (by simp; omega) _).alloc (by simp; omega) _).setCell (p := ⟨b, 0, none⟩) (Nat.le_refl _) _

set_option maxRecDepth 100000 in
set_option maxHeartbeats 400000 in
theorem getNum_long (s : ByteArray) (p : Int) (w : World) (hs : s.size ≤ maxLen) (h : 8000 < s.size) :
    Calls Tryd.prog 9 #[.string s, .int .i64 p] w fun e w' => e = .returned (.agg #[.int .i64 0, .int .i64 0, .int .i64 2]) ∧ Below w.heap.size w w' := by
  have HS := Lib.hid hs
  clear hs
  go_enter Tryd.func9, Tryd.ntmps9
  go_wp2_with (go_at_call 22; refine (tooLong_yes s _ HS.out h).mono ?_; rintro e w' ⟨rfl, rfl⟩)
  refine bodyPost_ret (v := .agg #[.int .i64 0, .int .i64 0, .int .i64 2]) (by simp [results, Tryd.results9, go_sem]) rfl ⟨rfl, (Below.refl _ _).alloc (Nat.le_refl _) _⟩

set_option maxRecDepth 100000 in
set_option maxHeartbeats 400000 in
theorem getNum_good (s : ByteArray) (p : Int) (w : World) (hs : s.size ≤ 8000) (hc : (getRes s p).2.2 = 0) :
    Calls Tryd.prog 9 #[.string s, .int .i64 p] w fun e w' => e = .returned (.agg #[.int .i64 (getRes s p).1, .int .i64 (getRes s p).2.1, .int .i64 0]) ∧ Below w.heap.size w w' := by
  obtain ⟨n, HN⟩ : ∃ n, Hid ((getRes s p).1 = n) := ⟨_, rfl⟩
  obtain ⟨q, HQ⟩ : ∃ q, Hid ((getRes s p).2.1 = q) := ⟨_, rfl⟩
  have HC := Lib.hid hc
  clear hc
  rw [HN.out, HQ.out]
  go_enter Tryd.func9, Tryd.ntmps9
  go_wp2_with fail
  refine (tooLong_no s _ hs).mono ?_
  rintro e w' ⟨rfl, rfl⟩
  go_wp2_with fail
  refine (readNum_ok s p _ hs HC.out).mono ?_
  rintro e w1 ⟨rfl, hb1⟩
  rw [HN.out, HQ.out]
  go_wp2_with fail
  refine (as_nil _ _).mono ?_
  rintro e w2 ⟨rfl, rfl⟩
  obtain ⟨hc, hf⟩ := bcell hb1
  have hz : w.heap.size < w1.heap.size := by have := hb1.size; simp at this; omega
  go_wp2_with fail
  refine bodyPost_ret (v := .agg #[.int .i64 n, .int .i64 q, .int .i64 0]) (by simp [results, Tryd.results9, go_sem, hc, hz]) rfl ⟨rfl, (below3 rfl hb1 (by simp) _ _ _).alloc (by simp; omega) _⟩

set_option maxRecDepth 100000 in
set_option maxHeartbeats 400000 in
theorem getNum_bad (s : ByteArray) (p c : Int) (w : World) (hs : s.size ≤ 8000) (hg : HandleAt w) (h : (getRes s p).2.2 = c) (hc0 : c ≠ 0) :
    Calls Tryd.prog 9 #[.string s, .int .i64 p] w fun e w' => e = .returned (.agg #[.int .i64 0, .int .i64 0, .int .i64 c]) ∧ Below w.heap.size w w' := by
  have HC := Lib.hid h
  have HZ := Lib.hid hc0
  have HG := Lib.hid hg
  clear h hc0 hg
  go_enter Tryd.func9, Tryd.ntmps9
  go_wp2_with fail
  refine (tooLong_no s _ hs).mono ?_
  rintro e w' ⟨rfl, rfl⟩
  go_wp2_with fail
  refine (readNum_bad s p c _ hs HC.out HZ.out).mono ?_
  rintro e w1 ⟨rfl, hb1⟩
  have hz : w.heap.size < w1.heap.size := by have := hb1.size; simp at this; omega
  have HG1 := Lib.hid ((HG.out.alloc (.cells #[.int .i64 0, .int .i64 0, .int .i64 0] 26)).below hb1 (by simp))
  go_wp2_with fail
  refine (as_hit2 c w1.heap.size (.int .i64 0) _ ?_ (by simp) (by simp)).mono ?_
  · exact HG1.out.alloc _
  rintro e w2 ⟨rfl, hcell, hb2⟩
  have hb3 := hb1.trans (((Below.refl w1.heap.size w1).alloc (Nat.le_refl _) (.cells #[.int .i64 0] 49)).trans hb2 |>.mono (by simp; omega))
  have hz2 : w1.heap.size < w2.heap.size := by have := hb2.size; simp at this; omega
  clear hb1 hb2
  obtain ⟨hc, hf⟩ := bcell hb3
  go_wp2_with fail
  refine bodyPost_ret (v := .agg #[.int .i64 0, .int .i64 0, .int .i64 c]) (by simp [results, Tryd.results9, go_sem, hc]) rfl ⟨rfl, below3 rfl hb3 (by simp) _ _ _⟩
end Go.Proofs.YtejkeoahdienmaaDoor
