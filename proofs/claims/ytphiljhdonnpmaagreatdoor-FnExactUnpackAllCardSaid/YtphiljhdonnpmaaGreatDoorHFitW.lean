/- Walks: impl.isNumber, isText, isItems, plainText. -/
import Derived.Test.YtphiljhdonnpmaaGreatDoorHFitP
import Derived.Test.YtphiljhdonnpmaaGreatDoorHRightW
import Derived.Test.YtphiljhdonnpmaaGreatDoorHEqA
import Derived.Deep.RegionWith
namespace Go.Proofs.YtphiljhdonnpmaaGreatDoor
open Go.RowKit

theorem str_nil {t : ByteArray} : t.toList = [] ↔ t.size = 0 := by
  rw [ByteArray.toList_eq]
  constructor
  · intro h; have := congrArg List.length h; simpa using this
  · intro h; exact List.eq_nil_of_length_eq_zero (by simpa using h)
theorem str_nil_b {t : ByteArray} : t.toList.isEmpty = decide (t.size = 0) := by
  rw [Bool.eq_iff_iff, List.isEmpty_iff, str_nil]; simp
theorem num0_b (l : Nat) : ((l : Int) == 0) = decide (l = 0) := by
  rw [Bool.eq_iff_iff]; simp

theorem isNumber_any (c0 : Value) (n : Int) (t : ByteArray) (p : Option Addr) (l m : Nat) (w : World) :
    Calls Tryz.prog 230 #[.agg #[c0, .int .i64 n, .string t, .slice p l m]] w fun e w' => e = .returned (.bool (decide (t.size = 0) && decide (l = 0))) ∧ Below w.heap.size w w' := by
  go_enter Tryz.func230, Tryz.ntmps230
  go_wp2_with fail
  · have h := str_nil.1 ‹t.toList = []›
    go_ret
    exact ⟨ret_bool (by simp [h, num0_b]), below_alloc _ _⟩
  · have h : ¬ t.size = 0 := fun e => ‹¬ t.toList = []› (str_nil.2 e)
    go_ret
    exact ⟨ret_bool (by simp [h]), below_alloc _ _⟩
theorem isText_any (c0 : Value) (n : Int) (t : ByteArray) (p : Option Addr) (l m : Nat) (w : World) :
    Calls Tryz.prog 236 #[.agg #[c0, .int .i64 n, .string t, .slice p l m]] w fun e w' => e = .returned (.bool (decide (n = 0) && decide (l = 0))) ∧ Below w.heap.size w w' := by
  go_enter Tryz.func236, Tryz.ntmps236
  go_wp2_with fail
  · have h := ‹n = 0›
    go_ret
    exact ⟨ret_bool (by simp [h, num0_b]), below_alloc _ _⟩
  · have h := ‹¬ n = 0›
    go_ret
    exact ⟨ret_bool (by simp [h]), below_alloc _ _⟩
theorem isItems_any (c0 : Value) (n : Int) (t : ByteArray) (p : Option Addr) (l m : Nat) (w : World) :
    Calls Tryz.prog 244 #[.agg #[c0, .int .i64 n, .string t, .slice p l m]] w fun e w' => e = .returned (.bool (decide (n = 0) && decide (t.size = 0))) ∧ Below w.heap.size w w' := by
  go_enter Tryz.func244, Tryz.ntmps244
  go_wp2_with fail
  · have h := ‹n = 0›
    go_ret
    exact ⟨ret_bool (by simp [h, str_nil_b]), below_alloc _ _⟩
  · have h := ‹¬ n = 0›
    go_ret
    exact ⟨ret_bool (by simp [h]), below_alloc _ _⟩
theorem isNumber_is (c0 : Value) (n : Int) (t : ByteArray) (p : Option Addr) (l m : Nat) (b : Bool) (hb : (decide (t.size = 0) && decide (l = 0)) = b) (w : World) :
    Calls Tryz.prog 230 #[.agg #[c0, .int .i64 n, .string t, .slice p l m]] w fun e w' => e = .returned (.bool b) ∧ Below w.heap.size w w' := by
  subst hb; exact isNumber_any _ _ _ _ _ _ _
theorem isText_is (c0 : Value) (n : Int) (t : ByteArray) (p : Option Addr) (l m : Nat) (b : Bool) (hb : (decide (n = 0) && decide (l = 0)) = b) (w : World) :
    Calls Tryz.prog 236 #[.agg #[c0, .int .i64 n, .string t, .slice p l m]] w fun e w' => e = .returned (.bool b) ∧ Below w.heap.size w w' := by
  subst hb; exact isText_any _ _ _ _ _ _ _
theorem isItems_is (c0 : Value) (n : Int) (t : ByteArray) (p : Option Addr) (l m : Nat) (b : Bool) (hb : (decide (n = 0) && decide (t.size = 0)) = b) (w : World) :
    Calls Tryz.prog 244 #[.agg #[c0, .int .i64 n, .string t, .slice p l m]] w fun e w' => e = .returned (.bool b) ∧ Below w.heap.size w w' := by
  subst hb; exact isItems_any _ _ _ _ _ _ _

theorem plain_no {s : ByteArray} {k : Nat} (h : k < s.size) (hn : plainB s[k] = false) : plainOk s.data.toList = false := by
  have : s.data.toList.all plainB = false := by
    rw [List.all_eq_false]; exact ⟨s[k], mem_at s k h, by simp [hn]⟩
  unfold plainOk; rw [this]; simp
theorem plain_yes {s : ByteArray} (h2 : s.size ≤ 20) (h4 : s.data.toList.all plainB = true) : plainOk s.data.toList = true := by
  have e : s.data.toList.length = s.size := by simp
  unfold plainOk; rw [h4, e]; simp [h2]
theorem plain_all {s : ByteArray} {k : Nat} (h : s.size ≤ k) (hk : (s.data.toList.take k).all plainB = true) : s.data.toList.all plainB = true := by
  rw [← List.take_of_length_le (l := s.data.toList) (i := k) (by rw [len_list]; omega)]; exact hk

theorem plainText_any (s : ByteArray) (w : World) (hs : s.size ≤ 9223372036854775807) :
    Calls Tryz.prog 179 #[.string s] w fun e w' => e = .returned (.bool (plainOk s.data.toList)) ∧ w = w' := by
  by_cases h20 : 20 < s.size
  · have HR : Hid (plainOk s.data.toList = false) := by show _ = _; unfold plainOk; rw [len_list]; simp; omega
    have h : (20 : Int) < s.size := by omega
    clear h20
    go_enter Tryz.func179, Tryz.ntmps179
    go_wp2_with fail
    go_ret
    exact ⟨ret_bool HR.out.symm, rfl⟩
  · have h : (s.size : Int) ≤ 20 := by omega
    go_enter Tryz.func179, Tryz.ntmps179
    go_wp2_with fail
    go_loop [9] (fun i => ∃ k : Nat, k ≤ s.size ∧ i = .int .i64 k ∧ Hid ((s.data.toList.take k).all plainB = true)) (fun i => s.size - (intOf i).toNat)
    case atStart => exact ⟨0, Nat.zero_le _, rfl, rfl⟩
    case round =>
      obtain ⟨k, hk, rfl, HK⟩ := hrel
      by_cases hlt : k < s.size
      · by_cases h1 : 32 ≤ (s[k].toNat : Int)
        · by_cases h2 : (s[k].toNat : Int) ≤ 126
          · cases h3 : ((s[k].toNat : Int) == 34)
            · have HN : Hid (plainB s[k] = true) := by show _ = _; unfold plainB; rw [h3]; simp [h1, h2]
              go_wp2_with fail
              go_round
              case rel => exact ⟨k + 1, hlt, by go_num, all_snoc hlt HK.out HN.out⟩
              case measure => simp [intOf]; omega
            · have HN : Hid (plainB s[k] = false) := by show _ = _; unfold plainB; rw [h3]; simp
              go_wp2_with fail
              go_ret
              exact ⟨ret_bool (plain_no hlt HN.out).symm, rfl⟩
          · have HN : Hid (plainB s[k] = false) := by show _ = _; unfold plainB; simp [h2]
            have h2 : (126 : Int) < s[k].toNat := by omega
            go_wp2_with fail
            go_ret
            exact ⟨ret_bool (plain_no hlt HN.out).symm, rfl⟩
        · have HN : Hid (plainB s[k] = false) := by show _ = _; unfold plainB; simp [h1]
          have h1 : (s[k].toNat : Int) < 32 := by omega
          go_wp2_with fail
          go_ret
          exact ⟨ret_bool (plain_no hlt HN.out).symm, rfl⟩
      · go_wp2_with fail
        go_ret
        exact ⟨ret_bool (plain_yes (by omega) (plain_all (by omega) HK.out)).symm, rfl⟩

/-- The kinds are not the same. -/
theorem fr_no (k k' n : Int) (t : ByteArray) (p1 p2 p3 p : Option Addr) (n1 n2 n3 m1 m2 m3 l m : Nat) (w : World) (hne : ¬ k' = k) :
    Calls Tryz.prog 78 #[.agg #[.int .i64 k, .slice p1 n1 m1, .slice p2 n2 m2, .slice p3 n3 m3], .agg #[.int .i64 k', .int .i64 n, .string t, .slice p l m]] w fun e w' => e = .returned (.bool false) ∧ Below w.heap.size w w' := by
  have h : (k' == k) = false := by simpa using hne
  clear hne
  go_enter Tryz.func78, Tryz.ntmps78
  go_wp2_with fail
  go_quiet (fail)
  go_wp2_with fail
  go_ret
  exact ⟨rfl, below_drewN ((below_alloc w _).alloc (by simp) _) _⟩

set_option maxHeartbeats 1000000 in
/-- .. are: the method is asked. -/
theorem fr_ask (T F : Nat) (k n : Int) (t : ByteArray) (p1 p2 p3 p : Option Addr) (n1 n2 n3 m1 m2 m3 l m : Nat) (w : World) (b : Bool)
    (hm : ∀ (v : Value) (w : World), (method 398 T v "loop.example/g00848/impl.fits").run Tryz.prog w = .ok (F, v) w)
    (hF : ∀ (args : Array Value) (w : World), (callFunc F args).run Tryz.prog w = .ok (.enter F args) w)
    (hk : ∀ w, Calls Tryz.prog 114 #[.agg #[.int .i64 k, .slice p1 n1 m1, .slice p2 n2 m2, .slice p3 n3 m3]] w fun e w' => e = .returned (.iface T (.agg #[.int .i64 k, .slice p1 n1 m1, .slice p2 n2 m2, .slice p3 n3 m3])) ∧ Below w.heap.size w w')
    (hs : ∀ w', Keeps w w' → Calls Tryz.prog F #[.agg #[.int .i64 k, .slice p1 n1 m1, .slice p2 n2 m2, .slice p3 n3 m3], .agg #[.int .i64 k, .int .i64 n, .string t, .slice p l m]] w' fun e w'' => e = .returned (.bool b) ∧ Below w'.heap.size w' w'') :
    Calls Tryz.prog 78 #[.agg #[.int .i64 k, .slice p1 n1 m1, .slice p2 n2 m2, .slice p3 n3 m3], .agg #[.int .i64 k, .int .i64 n, .string t, .slice p l m]] w fun e w' => e = .returned (.bool b) ∧ Below w.heap.size w w' := by
  have HK := Lib.hid hk
  have HS := Lib.hid hs
  have HB := Lib.hid (fun o1 o2 => (below_alloc w o1).alloc (by simp) o2)
  clear hk hs
  go_enter Tryz.func78, Tryz.ntmps78
  go_wp2_with fail
  have hS0 := Lib.hid (two_new w (.cells #[.int .i64 k, .slice p1 n1 m1, .slice p2 n2 m2, .slice p3 n3 m3] 34) (.cells #[.int .i64 k, .int .i64 n, .string t, .slice p l m] 38))
  obtain ⟨W, hW⟩ : ∃ W, W = ((w.alloc (.cells #[.int .i64 k, .slice p1 n1 m1, .slice p2 n2 m2, .slice p3 n3 m3] 34)).alloc (.cells #[.int .i64 k, .int .i64 n, .string t, .slice p l m] 38)) := ⟨_, rfl⟩
  have HBW : Hid (Below w.heap.size w W) := by show Below _ _ _; rw [hW]; exact HB.out _ _
  have hS := hS0.out
  rw [← hW] at hS ⊢
  have S1 := Lib.hid hS.1
  have S2 := Lib.hid hS.2
  clear hS hW
  obtain ⟨a0, a1, a2, a3, _, _, _, _, az⟩ := blk4 S1.out
  obtain ⟨b0, b1, b2, b3, _, _, _, _, bz⟩ := blk4 S2.out
  go_region_with (first
    | (go_at_call 114; refine (HK.out _).mono ?_; rintro e w1 ⟨rfl, hb1⟩; have HB1 := Lib.hid (HBW.out.drew.trans (hb1.mono HBW.out.size)); obtain ⟨_, _, _, _, _, _, _, _, _⟩ := blk4 (blk_below (w := W.drew) S2.out hb1 bz); obtain ⟨_, _, _, _, _, _, _, _, _⟩ := blk4 (blk_below (w := W.drew) S1.out hb1 az); clear hb1)
    | (refine (HS.out _ (Keeps.of_below HB1.out)).mono ?_; rintro e w2 ⟨rfl, hb2⟩; have HB2 := Lib.hid (HB1.out.trans (hb2.mono HB1.out.size)); clear hb2))
  all_goals
    go_wp2_with fail
    go_ret
    exact ⟨rfl, HB2.out⟩
end Go.Proofs.YtphiljhdonnpmaaGreatDoor
