/- Walks: impl.readText, impl.GetText. -/
import Derived.Test.YtejkeoahdienmaaDoorGetW
import Derived.Test.YtejkeoahdienmaaDoorTextP
import Derived.Test.YtejkeoahdienmaaDoorCloneW
namespace Go.Proofs.YtejkeoahdienmaaDoor
open Go.RowKit

theorem ret_terr {R : ByteArray × Int × Int} {c : Int} (h : R = (⟨#[]⟩, 0, c)) (hc : c ≠ 0) :
    Ending.returned (.tuple #[.string ⟨#[]⟩, .int .i64 0, .iface 49 (.agg #[.int .i64 c])]) = .returned (.tuple #[.string R.1, .int .i64 R.2.1, errV R.2.2]) := by
  subst h; simp [errV, hc]
theorem ret_tok {R : ByteArray × Int × Int} {t : ByteArray} {q : Int} (h : R = (t, q, 0)) :
    Ending.returned (.tuple #[.string t, .int .i64 q, .nilIface]) = .returned (.tuple #[.string R.1, .int .i64 R.2.1, errV R.2.2]) := by
  subst h; simp [errV]

set_option maxRecDepth 100000 in
set_option maxHeartbeats 400000 in
theorem readText_any (s : ByteArray) (p : Int) (w : World) (hs : s.size ≤ 8000) :
    Calls Tryd.prog 29 #[.string s, .int .i64 p] w fun e w' => e = .returned (.tuple #[.string (textRes s p).1, .int .i64 (textRes s p).2.1, errV (textRes s p).2.2]) ∧ Below w.heap.size w w' := by
  obtain ⟨T, HT⟩ : ∃ T, Hid (textRes s p = T) := ⟨_, rfl⟩
  rw [HT.out]
  have HS := Lib.hid hs
  by_cases hc : (getRes s p).2.2 = 0
  · have HC := Lib.hid hc
    have hpl := res_place hc
    obtain ⟨n, HN⟩ : ∃ n, Hid ((getRes s p).1 = n) := ⟨_, rfl⟩
    obtain ⟨q, HQ⟩ : ∃ q, Hid ((getRes s p).2.1 = q) := ⟨_, rfl⟩
    rw [HQ.out] at hpl
    obtain ⟨hq0, hq1⟩ := hpl
    clear hc
    have hs1 : (s.size : Int) ≤ 8000 := by omega
    by_cases h1 : n < 0 ∨ 8000 < n
    · have HP := Lib.hid (HT.out.symm.trans (text_size HC.out HN.out h1))
      have h1' : n < 0 ∨ (0 ≤ n ∧ 8000 < n) := by omega
      clear h1
      rcases h1' with h1 | ⟨h0, h1⟩
      all_goals
        go_enter Tryd.func29, Tryd.ntmps29
        go_wp2_with fail
        refine (readNum_ok s p _ HS.out HC.out).mono ?_
        rintro e w1 ⟨rfl, hb1⟩
        rw [HN.out, HQ.out]
        go_wp2_with fail
        go_ret3
        exact ⟨ret_terr HP.out (by decide), hb1⟩
    · have hn0 : 0 ≤ n := by omega
      have hn1 : n ≤ 8000 := by omega
      by_cases h2 : (s.size : Int) < q + n
      · have HP := Lib.hid (HT.out.symm.trans (text_short HC.out HN.out HQ.out h1 h2))
        clear h1
        go_enter Tryd.func29, Tryd.ntmps29
        go_wp2_with fail
        refine (readNum_ok s p _ HS.out HC.out).mono ?_
        rintro e w1 ⟨rfl, hb1⟩
        rw [HN.out, HQ.out]
        go_wp2_with fail
        go_ret3
        exact ⟨ret_terr HP.out (by decide), hb1⟩
      · have HP := Lib.hid (HT.out.symm.trans (text_ok HC.out HN.out HQ.out h1 h2))
        have h2' : q + n ≤ (s.size : Int) := by omega
        clear h1 h2
        obtain ⟨k, rfl⟩ := Int.eq_ofNat_of_zero_le hq0
        obtain ⟨m, rfl⟩ := Int.eq_ofNat_of_zero_le hn0
        go_enter Tryd.func29, Tryd.ntmps29
        go_wp2_with fail
        refine (readNum_ok s p _ HS.out HC.out).mono ?_
        rintro e w1 ⟨rfl, hb1⟩
        rw [HN.out, HQ.out]
        go_wp2_with fail
        refine (clone_any _ _ ?_).mono ?_
        · rw [ByteArray.size_extract]; have := HS.out; omega
        rintro e w2 ⟨rfl, hb2⟩
        go_wp2_with fail
        go_ret3
        exact ⟨ret_tok HP.out, hb1.trans (hb2.mono hb1.size)⟩
  · obtain ⟨c, hcc⟩ : ∃ c, (getRes s p).2.2 = c := ⟨_, rfl⟩
    have HC := Lib.hid hcc
    have HZ := Lib.hid (show c ≠ 0 by rw [← hcc]; exact hc)
    have HP := Lib.hid (HT.out.symm.trans (text_num HC.out HZ.out))
    clear hc hcc
    go_enter Tryd.func29, Tryd.ntmps29
    go_wp2_with fail
    refine (readNum_bad s p c _ HS.out HC.out HZ.out).mono ?_
    rintro e w1 ⟨rfl, hb1⟩
    go_wp2_with fail
    go_ret3
    exact ⟨ret_terr HP.out HZ.out, hb1⟩

theorem readText_bad (s : ByteArray) (p c : Int) (w : World) (hs : s.size ≤ 8000) (h : (textRes s p).2.2 = c) (hc : c ≠ 0) :
    Calls Tryd.prog 29 #[.string s, .int .i64 p] w fun e w' => e = .returned (.tuple #[.string ⟨#[]⟩, .int .i64 0, .iface 49 (.agg #[.int .i64 c])]) ∧ Below w.heap.size w w' := by
  have e := text_bad (s := s) (p := p) (by rw [h]; exact hc)
  rw [h] at e
  refine (readText_any s p w hs).mono fun e' w' ⟨he, hb⟩ => ⟨?_, hb⟩
  rw [he, e]; simp [errV, hc]
theorem readText_ok (s : ByteArray) (p : Int) (w : World) (hs : s.size ≤ 8000) (h : (textRes s p).2.2 = 0) :
    Calls Tryd.prog 29 #[.string s, .int .i64 p] w fun e w' => e = .returned (.tuple #[.string (textRes s p).1, .int .i64 (textRes s p).2.1, .nilIface]) ∧ Below w.heap.size w w' := by
  refine (readText_any s p w hs).mono fun e' w' ⟨he, hb⟩ => ⟨?_, hb⟩
  rw [he, h]; simp [errV]

set_option maxRecDepth 100000 in
set_option maxHeartbeats 400000 in
theorem getText_long (s : ByteArray) (p : Int) (w : World) (hs : s.size ≤ maxLen) (h : 8000 < s.size) :
    Calls Tryd.prog 13 #[.string s, .int .i64 p] w fun e w' => e = .returned (.agg #[.string ⟨#[]⟩, .int .i64 0, .int .i64 2]) ∧ Below w.heap.size w w' := by
  have HS := Lib.hid hs
  clear hs
  go_enter Tryd.func13, Tryd.ntmps13
  go_wp2_with (go_at_call 22; refine (tooLong_yes s _ HS.out h).mono ?_; rintro e w' ⟨rfl, rfl⟩)
  refine bodyPost_ret (v := .agg #[.string ⟨#[]⟩, .int .i64 0, .int .i64 2]) (by simp [results, Tryd.results13, go_sem]) rfl ⟨rfl, (Below.refl _ _).alloc (Nat.le_refl _) _⟩

set_option maxRecDepth 100000 in
set_option maxHeartbeats 400000 in
theorem getText_good (s : ByteArray) (p : Int) (w : World) (hs : s.size ≤ 8000) (hc : (textRes s p).2.2 = 0) :
    Calls Tryd.prog 13 #[.string s, .int .i64 p] w fun e w' => e = .returned (.agg #[.string (textRes s p).1, .int .i64 (textRes s p).2.1, .int .i64 0]) ∧ Below w.heap.size w w' := by
  obtain ⟨n, HN⟩ : ∃ n, Hid ((textRes s p).1 = n) := ⟨_, rfl⟩
  obtain ⟨q, HQ⟩ : ∃ q, Hid ((textRes s p).2.1 = q) := ⟨_, rfl⟩
  have HC := Lib.hid hc
  clear hc
  rw [HN.out, HQ.out]
  go_enter Tryd.func13, Tryd.ntmps13
  go_wp2_with fail
  refine (tooLong_no s _ hs).mono ?_
  rintro e w' ⟨rfl, rfl⟩
  go_wp2_with fail
  refine (readText_ok s p _ hs HC.out).mono ?_
  rintro e w1 ⟨rfl, hb1⟩
  rw [HN.out, HQ.out]
  go_wp2_with fail
  refine (as_nil _ _).mono ?_
  rintro e w2 ⟨rfl, rfl⟩
  obtain ⟨hc, hf⟩ := bcell hb1
  have hz : w.heap.size < w1.heap.size := by have := hb1.size; simp at this; omega
  go_wp2_with fail
  refine bodyPost_ret (v := .agg #[.string n, .int .i64 q, .int .i64 0]) (by simp [results, Tryd.results13, go_sem, hc, hz]) rfl ⟨rfl, (below3 rfl hb1 (by simp) _ _ _).alloc (by simp; omega) _⟩

set_option maxRecDepth 100000 in
set_option maxHeartbeats 400000 in
theorem getText_bad (s : ByteArray) (p c : Int) (w : World) (hs : s.size ≤ 8000) (hg : HandleAt w) (h : (textRes s p).2.2 = c) (hc0 : c ≠ 0) :
    Calls Tryd.prog 13 #[.string s, .int .i64 p] w fun e w' => e = .returned (.agg #[.string ⟨#[]⟩, .int .i64 0, .int .i64 c]) ∧ Below w.heap.size w w' := by
  have HC := Lib.hid h
  have HZ := Lib.hid hc0
  have HG := Lib.hid hg
  clear h hc0 hg
  go_enter Tryd.func13, Tryd.ntmps13
  go_wp2_with fail
  refine (tooLong_no s _ hs).mono ?_
  rintro e w' ⟨rfl, rfl⟩
  go_wp2_with fail
  refine (readText_bad s p c _ hs HC.out HZ.out).mono ?_
  rintro e w1 ⟨rfl, hb1⟩
  have hz : w.heap.size < w1.heap.size := by have := hb1.size; simp at this; omega
  have HG1 := Lib.hid ((HG.out.alloc (.cells #[.string ⟨#[]⟩, .int .i64 0, .int .i64 0] 31)).below hb1 (by simp))
  go_wp2_with fail
  refine (as_hit2 c w1.heap.size (.int .i64 0) _ ?_ (by simp) (by simp)).mono ?_
  · exact HG1.out.alloc _
  rintro e w2 ⟨rfl, hcell, hb2⟩
  have hb3 := hb1.trans (((Below.refl w1.heap.size w1).alloc (Nat.le_refl _) (.cells #[.int .i64 0] 49)).trans hb2 |>.mono (by simp; omega))
  have hz2 : w1.heap.size < w2.heap.size := by have := hb2.size; simp at this; omega
  clear hb1 hb2
  obtain ⟨hc, hf⟩ := bcell hb3
  go_wp2_with fail
  refine bodyPost_ret (v := .agg #[.string ⟨#[]⟩, .int .i64 0, .int .i64 c]) (by simp [results, Tryd.results13, go_sem, hc]) rfl ⟨rfl, below3 rfl hb3 (by simp) _ _ _⟩
end Go.Proofs.YtejkeoahdienmaaDoor
