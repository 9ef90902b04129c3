/- Walks: what a number read tells; errors.As. · Walks: impl.readText. -/
import Derived.Test.YtbpidhlpakobiaaGreatDoorHReadW
import Derived.Test.YtbpidhlpakobiaaGreatDoorHAsA
import Derived.Test.YtbpidhlpakobiaaGreatDoorHTextA
import Derived.Test.YtbpidhlpakobiaaGreatDoorHGetB
import Derived.Test.YtbpidhlpakobiaaGreatDoorHCloneW
namespace Go.Proofs.YtbpidhlpakobiaaGreatDoor
open Go.RowKit

/-- errors.errorType holds the handle of the type 'error'. -/
def HandleAt (w : World) : Prop := w.cell? ⟨1, 0, none⟩ = some (.iface 193 (.agg #[.pointer (some ⟨9, 93, none⟩)]))
theorem HandleAt.pos {w : World} (h : HandleAt w) : 1 < w.heap.size := World.block_lt_of_cell? w ⟨1, 0, none⟩ h
theorem HandleAt.below {w w' : World} {B : Nat} (h : HandleAt w) (hb : Below B w w') (hB : 1 < B) : HandleAt w' := by
  unfold HandleAt; rw [hb.cell (p := ⟨1, 0, none⟩) hB]; exact h
theorem HandleAt.alloc {w : World} (h : HandleAt w) (o : Obj) : HandleAt (w.alloc o) := by
  unfold HandleAt; rw [World.cell?_alloc_lt _ _ ⟨1, 0, none⟩ h.pos]; exact h

theorem res_bad {s : ByteArray} {p : Int} (h : (getRes s p).2.2 ≠ 0) : getRes s p = (0, 0, (getRes s p).2.2) := by
  have : ∀ f q u, (getF s f q u).2.2 ≠ 0 → getF s f q u = (0, 0, (getF s f q u).2.2) := by
    intro f
    induction f with
    | zero => intro q u _; rfl
    | succ f ih =>
      intro q u h
      by_cases hq : q < s.size
      · by_cases h9 : f = 0 ∧ 1 < s[q].toNat
        · have e : getF s (f + 1) q u = (0, 0, 3) := by rw [getF, dif_pos hq, if_pos h9]
          rw [e]
        · by_cases hb : s[q].toNat < 128
          · rw [getF_last hq h9 hb] at h ⊢
            by_cases hz : s[q].toNat = 0 ∧ f ≠ 9
            · rw [if_pos hz]
            · rw [if_neg hz] at h; exact absurd rfl h
          · rw [getF_more hq h9 hb] at h ⊢
            exact ih _ _ h
      · rw [getF_far (by omega)]
  unfold getRes at h ⊢
  by_cases hp : p < 0
  · rw [if_pos hp]
  · rw [if_neg hp] at h ⊢
    exact this _ _ _ h

theorem readNum_bad (s : ByteArray) (p c : Int) (w : World) (hs : s.size ≤ 8000) (h : (getRes s p).2.2 = c) (hc : c ≠ 0) :
    Calls Tryz.prog 177 #[.string s, .int .i64 p] w fun e w' => e = .returned (.tuple #[.int .i64 0, .int .i64 0, .iface 97 (.agg #[.int .i64 c])]) ∧ Below w.heap.size w w' := by
  have e := res_bad (s := s) (p := p) (by rw [h]; exact hc)
  rw [h] at e
  refine (readNum_any s p w hs).mono fun e' w' ⟨he, hb⟩ => ⟨?_, hb⟩
  rw [he, e]; simp [errV, hc]
theorem readNum_ok (s : ByteArray) (p : Int) (w : World) (hs : s.size ≤ 8000) (h : (getRes s p).2.2 = 0) :
    Calls Tryz.prog 177 #[.string s, .int .i64 p] w fun e w' => e = .returned (.tuple #[.int .i64 (getRes s p).1, .int .i64 (getRes s p).2.1, .nilIface]) ∧ Below w.heap.size w w' := by
  refine (readNum_any s p w hs).mono fun e' w' ⟨he, hb⟩ => ⟨?_, hb⟩
  rw [he, h]; simp [errV]

/-- errors.As, the way on which the error's own type is the target's: what the caller needs of it. -/
theorem as_hit2 (n : Int) (b : Nat) (old : Value) (w : World) (hg : HandleAt w) (ht0 : w.cell? ⟨b, 0, none⟩ = some old) (hf0 : w.frozen? ⟨b, 0, none⟩ = false) :
    Calls Tryz.prog 66 #[.iface 97 (.agg #[.int .i64 n]), .iface 99 (.pointer (some ⟨b, 0, none⟩))] w fun ev w' => ev = .returned (.bool true) ∧ w'.cell? ⟨b, 0, none⟩ = some (.int .i64 n) ∧ Below b w w' := by
  refine (as_hit n ⟨b, 0, none⟩ old w hg ht0 hf0).mono fun e w' ⟨he, hw⟩ => ⟨he, ?_, ?_⟩
  · have htl : b < w.heap.size := by
      rcases Nat.lt_or_ge b w.heap.size with h | h
      · exact h
      · simp [World.cell?, Array.getElem?_eq_none h] at ht0
    rw [hw]
    refine World.cell?_setCell_same _ _ _ (u := old) ?_
    rw [World.cell?_alloc_lt _ _ _ (by simp; omega), World.cell?_alloc_lt _ _ _ (by simp; omega), World.cell?_alloc_lt _ _ _ (by simp; omega), World.cell?_alloc_lt _ _ _ htl]
    exact ht0
  · have htl : b < w.heap.size := by
      rcases Nat.lt_or_ge b w.heap.size with h | h
      · exact h
      · simp [World.cell?, Array.getElem?_eq_none h] at ht0
    subst hw
    exact (((((Below.refl b w).alloc (by omega) _).alloc (by simp; omega) _).alloc (by simp; omega) _).alloc (by simp; omega) _).setCell (p := ⟨b, 0, none⟩) (Nat.le_refl _) _
end Go.Proofs.YtbpidhlpakobiaaGreatDoor
namespace Go.Proofs.YtbpidhlpakobiaaGreatDoor
open Go.RowKit

theorem ret_terr {R : ByteArray × Int × Int} {c : Int} (h : R = (⟨#[]⟩, 0, c)) (hc : c ≠ 0) :
    Ending.returned (.tuple #[.string ⟨#[]⟩, .int .i64 0, .iface 97 (.agg #[.int .i64 c])]) = .returned (.tuple #[.string R.1, .int .i64 R.2.1, errV R.2.2]) := by
  subst h; simp [errV, hc]
theorem ret_tok {R : ByteArray × Int × Int} {t : ByteArray} {q : Int} (h : R = (t, q, 0)) :
    Ending.returned (.tuple #[.string t, .int .i64 q, .nilIface]) = .returned (.tuple #[.string R.1, .int .i64 R.2.1, errV R.2.2]) := by
  subst h; simp [errV]

set_option maxRecDepth 100000 in
set_option maxHeartbeats 400000 in
theorem readText_any (s : ByteArray) (p : Int) (w : World) (hs : s.size ≤ 8000) :
    Calls Tryz.prog 179 #[.string s, .int .i64 p] w fun e w' => e = .returned (.tuple #[.string (textRes s p).1, .int .i64 (textRes s p).2.1, errV (textRes s p).2.2]) ∧ Below w.heap.size w w' := by
  obtain ⟨T, HT⟩ : ∃ T, Hid (textRes s p = T) := ⟨_, rfl⟩
  rw [HT.out]
  have HS := Lib.hid hs
  by_cases hc : (getRes s p).2.2 = 0
  · have HC := Lib.hid hc
    have hpl := res_place hc
    obtain ⟨n, HN⟩ : ∃ n, Hid ((getRes s p).1 = n) := ⟨_, rfl⟩
    obtain ⟨q, HQ⟩ : ∃ q, Hid ((getRes s p).2.1 = q) := ⟨_, rfl⟩
    rw [HQ.out] at hpl
    obtain ⟨hq0, hq1⟩ := hpl
    clear hc
    have hs1 : (s.size : Int) ≤ 8000 := by omega
    by_cases h1 : n < 0 ∨ 8000 < n
    · have HP := Lib.hid (HT.out.symm.trans (text_size HC.out HN.out h1))
      have h1' : n < 0 ∨ (0 ≤ n ∧ 8000 < n) := by omega
      clear h1
      rcases h1' with h1 | ⟨h0, h1⟩
      all_goals
        go_enter Tryz.func179, Tryz.ntmps179
        go_wp2_with fail
        refine (readNum_ok s p _ HS.out HC.out).mono ?_
        rintro e w1 ⟨rfl, hb1⟩
        rw [HN.out, HQ.out]
        go_wp2_with fail
        go_ret3
        exact ⟨ret_terr HP.out (by decide), hb1⟩
    · have hn0 : 0 ≤ n := by omega
      have hn1 : n ≤ 8000 := by omega
      by_cases h2 : (s.size : Int) < q + n
      · have HP := Lib.hid (HT.out.symm.trans (text_short HC.out HN.out HQ.out h1 h2))
        clear h1
        go_enter Tryz.func179, Tryz.ntmps179
        go_wp2_with fail
        refine (readNum_ok s p _ HS.out HC.out).mono ?_
        rintro e w1 ⟨rfl, hb1⟩
        rw [HN.out, HQ.out]
        go_wp2_with fail
        go_ret3
        exact ⟨ret_terr HP.out (by decide), hb1⟩
      · have HP := Lib.hid (HT.out.symm.trans (text_ok HC.out HN.out HQ.out h1 h2))
        have h2' : q + n ≤ (s.size : Int) := by omega
        clear h1 h2
        obtain ⟨k, rfl⟩ := Int.eq_ofNat_of_zero_le hq0
        obtain ⟨m, rfl⟩ := Int.eq_ofNat_of_zero_le hn0
        go_enter Tryz.func179, Tryz.ntmps179
        go_wp2_with fail
        refine (readNum_ok s p _ HS.out HC.out).mono ?_
        rintro e w1 ⟨rfl, hb1⟩
        rw [HN.out, HQ.out]
        go_wp2_with fail
        refine (clone_any _ _ ?_).mono ?_
        · rw [ByteArray.size_extract]; have := HS.out; omega
        rintro e w2 ⟨rfl, hb2⟩
        go_wp2_with fail
        go_ret3
        exact ⟨ret_tok HP.out, hb1.trans (hb2.mono hb1.size)⟩
  · obtain ⟨c, hcc⟩ : ∃ c, (getRes s p).2.2 = c := ⟨_, rfl⟩
    have HC := Lib.hid hcc
    have HZ := Lib.hid (show c ≠ 0 by rw [← hcc]; exact hc)
    have HP := Lib.hid (HT.out.symm.trans (text_num HC.out HZ.out))
    clear hc hcc
    go_enter Tryz.func179, Tryz.ntmps179
    go_wp2_with fail
    refine (readNum_bad s p c _ HS.out HC.out HZ.out).mono ?_
    rintro e w1 ⟨rfl, hb1⟩
    go_wp2_with fail
    go_ret3
    exact ⟨ret_terr HP.out HZ.out, hb1⟩

theorem readText_bad (s : ByteArray) (p c : Int) (w : World) (hs : s.size ≤ 8000) (h : (textRes s p).2.2 = c) (hc : c ≠ 0) :
    Calls Tryz.prog 179 #[.string s, .int .i64 p] w fun e w' => e = .returned (.tuple #[.string ⟨#[]⟩, .int .i64 0, .iface 97 (.agg #[.int .i64 c])]) ∧ Below w.heap.size w w' := by
  have e := text_bad (s := s) (p := p) (by rw [h]; exact hc)
  rw [h] at e
  refine (readText_any s p w hs).mono fun e' w' ⟨he, hb⟩ => ⟨?_, hb⟩
  rw [he, e]; simp [errV, hc]
theorem readText_ok (s : ByteArray) (p : Int) (w : World) (hs : s.size ≤ 8000) (h : (textRes s p).2.2 = 0) :
    Calls Tryz.prog 179 #[.string s, .int .i64 p] w fun e w' => e = .returned (.tuple #[.string (textRes s p).1, .int .i64 (textRes s p).2.1, .nilIface]) ∧ Below w.heap.size w w' := by
  refine (readText_any s p w hs).mono fun e' w' ⟨he, hb⟩ => ⟨?_, hb⟩
  rw [he, h]; simp [errV]
end Go.Proofs.YtbpidhlpakobiaaGreatDoor
