/- Walks: impl.PutNum and spec.PutNum. -/
import Derived.Test.YtphiljhdonnpmaaGreatDoorRows
import Derived.Test.YtphiljhdonnpmaaGreatDoorGPutP
import Derived.Test.YtphiljhdonnpmaaGreatDoorGOwn
import Derived.WalkKit
import Derived.WalkSpells
import Derived.WalkLawsBesides
import Derived.Lib.Hide
import Derived.Outline
import Derived.Laws.BitsAllLaws
import Derived.Laws.BytesArg
namespace Go.Proofs.YtphiljhdonnpmaaGreatDoor
open Go.RowKit

theorem unsigned_any (n : Int) (w : World) (hn : InI64 n) :
    Calls Tryz.prog 175 #[.int .i64 n] w fun e w' => e = .returned (.int .u64 (foldN n)) ∧ w = w' := by
  have HN := Lib.hid hn
  clear hn
  by_cases h : n < 0
  · have HF := Lib.hid (fold_neg HN.out h)
    go_enter Tryz.func175, Tryz.ntmps175
    go_wp2
    go_ret
    exact ⟨ret_int HF.out, rfl⟩
  · have HF := Lib.hid (fold_pos HN.out (by omega))
    go_enter Tryz.func175, Tryz.ntmps175
    go_wp2
    go_ret
    exact ⟨ret_int HF.out, rfl⟩

theorem l01Fold_any (n : Int) (w : World) (hn : InI64 n) :
    Calls Tryz.prog 131 #[.int .i64 n] w fun e w' => e = .returned (.int .u64 (foldN n)) ∧ w = w' := by
  have HN := Lib.hid hn
  clear hn
  by_cases h : n < 0
  · have HF := Lib.hid (fold2_neg HN.out h)
    go_enter Tryz.func131, Tryz.ntmps131
    go_wp2
    go_ret
    exact ⟨ret_int HF.out, rfl⟩
  · have HF := Lib.hid (fold2_pos HN.out (by omega))
    go_enter Tryz.func131, Tryz.ntmps131
    go_wp2
    go_ret
    exact ⟨ret_int HF.out, rfl⟩

set_option maxHeartbeats 400000 in
set_option maxRecDepth 100000 in
theorem putNum_any (n : Int) (w : World) (hn : InI64 n) :
    Calls Tryz.prog 154 #[.int .i64 n] w fun e w' => e = .returned (.string ⟨(putNum n).toArray⟩) ∧ Below w.heap.size w w' := by
  have HN := Lib.hid hn
  clear hn
  go_enter Tryz.func154, Tryz.ntmps154
  go_wp2_with (go_at_call 175; refine (unsigned_any _ _ HN.out).mono ?_; rintro e w' ⟨rfl, rfl⟩)
  go_loopw [3, 4] (fun v i wr => ∃ (u : Nat) (l : List UInt8), i = .int .u64 u ∧ OwnB wr w.heap.size v l ∧ Below w.heap.size w wr ∧ Hid (l ++ enc u = putNum n)) (fun _ i _ => (intOf i).toNat)
  case atStart => exact ⟨foldN n, [], rfl, OwnB.nil _ _, Below.refl _ _, rfl⟩
  case round =>
    obtain ⟨u, l, rfl, hown, hb, HE⟩ := hrel
    have hbs := hb.size
    have hlen := put_len HN.out HE.out
    by_cases hu : 128 ≤ u
    · have h1 : (128 : Int) ≤ u := by omega
      obtain ⟨c, HC⟩ : ∃ c, Hid (c = UInt8.ofNat (u % 128 + 128)) := ⟨_, rfl⟩
      go_wp2_with (at_builtin; go_must (refine wpList_byte wr rfl (.tmp 9) (.tmp 13) rfl w.heap.size _ l _ c rfl hown rfl ?_ ?_ hbs ?_))
      · exact put_byte HC.out
      · omega
      · intro v' w1 hown1 hb1
        go_wp2
        exact ⟨⟨u / 128, l ++ [c], by go_num, hown1, hb1 _ _ hb (Nat.le_refl _), put_step hu HC.out HE.out⟩, by simp [intOf]; omega⟩
    · have h1 : (u : Int) < 128 := by omega
      obtain ⟨c, HC⟩ : ∃ c, Hid (c = UInt8.ofNat u) := ⟨_, rfl⟩
      go_wp2_with (at_builtin; go_must (refine wpList_byte wr rfl (.tmp 17) (.tmp 20) rfl w.heap.size _ l _ c rfl hown rfl ?_ ?_ hbs ?_))
      · exact put_last hu HC.out
      · omega
      · intro v' w1 hown1 hb1
        have hs := hown1.str
        go_wp2
        go_ret
        exact ⟨ret_list (put_end hu HC.out HE.out), hb1 _ _ hb (Nat.le_refl _)⟩

set_option maxRecDepth 100000 in
set_option maxHeartbeats 400000 in
theorem specPutNum_any (n : Int) (w : World) (hn : InI64 n) :
    Calls Tryz.prog 92 #[.int .i64 n] w fun e w' => e = .returned (.string ⟨(putNum n).toArray⟩) ∧ Below w.heap.size w w' := by
  have HN := Lib.hid hn
  clear hn
  go_enter Tryz.func92, Tryz.ntmps92
  go_wp2_with (go_at_call 131; refine (l01Fold_any _ _ HN.out).mono ?_; rintro e w' ⟨rfl, rfl⟩)
  go_loopw [3, 4] (fun i v wr => ∃ (u : Nat) (l : List UInt8), i = .int .u64 u ∧ u < 18446744073709551616 ∧ OwnB wr w.heap.size v l ∧ Below w.heap.size w wr ∧ Hid (l ++ enc u = putNum n)) (fun i _ _ => (intOf i).toNat)
  case atStart => exact ⟨foldN n, [], rfl, foldN_lt HN.out, OwnB.empty _ _ (Nat.le_refl _), (Below.refl _ _).alloc (Nat.le_refl _) _, rfl⟩
  case round =>
    obtain ⟨u, l, rfl, hu64, hown, hb, HE⟩ := hrel
    have hbs := hb.size
    have hlen := put_len HN.out HE.out
    by_cases hu : 128 ≤ u
    · have h1 : (128 : Int) ≤ u := by omega
      have h2 : (u : Int) ≤ 18446744073709551615 := by omega
      obtain ⟨c, HC⟩ : ∃ c, Hid (c = UInt8.ofNat (u % 128 + 128)) := ⟨_, rfl⟩
      clear hu64
      go_wp2_with (at_builtin; go_must (refine wpList_byte wr rfl (.tmp 10) (.tmp 15) rfl w.heap.size _ l _ c rfl hown rfl ?_ ?_ hbs ?_))
      · exact put_byte2 HC.out
      · omega
      · intro v' w1 hown1 hb1
        go_wp2
        exact ⟨⟨u / 128, l ++ [c], by go_num, by omega, hown1, hb1 _ _ hb (Nat.le_refl _), put_step hu HC.out HE.out⟩, by simp [intOf]; omega⟩
    · have h1 : (u : Int) < 128 := by omega
      obtain ⟨c, HC⟩ : ∃ c, Hid (c = UInt8.ofNat u) := ⟨_, rfl⟩
      clear hu64
      go_wp2_with (at_builtin; go_must (refine wpList_byte wr rfl (.tmp 19) (.tmp 22) rfl w.heap.size _ l _ c rfl hown rfl ?_ ?_ hbs ?_))
      · exact put_last hu HC.out
      · omega
      · intro v' w1 hown1 hb1
        have hs := hown1.str
        go_wp2
        go_ret
        exact ⟨ret_list (put_end hu HC.out HE.out), hb1 _ _ hb (Nat.le_refl _)⟩
end Go.Proofs.YtphiljhdonnpmaaGreatDoor
