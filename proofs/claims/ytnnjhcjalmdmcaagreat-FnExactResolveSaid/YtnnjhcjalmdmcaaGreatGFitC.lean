/- Walks: impl.isNumber, isText, isItems, plainText. · Walks: the methods fits of the kinds that have no parts. · Walks: the methods fits of the kinds that have parts; impl.fitsRight; impl.Fits. -/
import Derived.Test.YtnnjhcjalmdmcaaGreatGFitP
import Derived.Test.YtnnjhcjalmdmcaaGreatGRightW
import Derived.Test.YtnnjhcjalmdmcaaGreatGEqA
import Derived.Deep.RegionWith
import Derived.Test.YtnnjhcjalmdmcaaGreatGPartB
namespace Go.Proofs.YtnnjhcjalmdmcaaGreat
open Go.RowKit

theorem str_nil {t : ByteArray} : t.toList = [] ↔ t.size = 0 := by
  rw [ByteArray.toList_eq]
  constructor
  · intro h; have := congrArg List.length h; simpa using this
  · intro h; exact List.eq_nil_of_length_eq_zero (by simpa using h)
theorem str_nil_b {t : ByteArray} : t.toList.isEmpty = decide (t.size = 0) := by
  rw [Bool.eq_iff_iff, List.isEmpty_iff, str_nil]; simp
theorem num0_b (l : Nat) : ((l : Int) == 0) = decide (l = 0) := by
  rw [Bool.eq_iff_iff]; simp

theorem isNumber_any (c0 : Value) (n : Int) (t : ByteArray) (p : Option Addr) (l m : Nat) (w : World) :
    Calls Tryz.prog 127 #[.agg #[c0, .int .i64 n, .string t, .slice p l m]] w fun e w' => e = .returned (.bool (decide (t.size = 0) && decide (l = 0))) ∧ Below w.heap.size w w' := by
  go_enter Tryz.func127, Tryz.ntmps127
  go_wp2_with fail
  · have h := str_nil.1 ‹t.toList = []›
    go_ret
    exact ⟨ret_bool (by simp [h, num0_b]), below_alloc _ _⟩
  · have h : ¬ t.size = 0 := fun e => ‹¬ t.toList = []› (str_nil.2 e)
    go_ret
    exact ⟨ret_bool (by simp [h]), below_alloc _ _⟩
theorem isText_any (c0 : Value) (n : Int) (t : ByteArray) (p : Option Addr) (l m : Nat) (w : World) :
    Calls Tryz.prog 133 #[.agg #[c0, .int .i64 n, .string t, .slice p l m]] w fun e w' => e = .returned (.bool (decide (n = 0) && decide (l = 0))) ∧ Below w.heap.size w w' := by
  go_enter Tryz.func133, Tryz.ntmps133
  go_wp2_with fail
  · have h := ‹n = 0›
    go_ret
    exact ⟨ret_bool (by simp [h, num0_b]), below_alloc _ _⟩
  · have h := ‹¬ n = 0›
    go_ret
    exact ⟨ret_bool (by simp [h]), below_alloc _ _⟩
theorem isItems_any (c0 : Value) (n : Int) (t : ByteArray) (p : Option Addr) (l m : Nat) (w : World) :
    Calls Tryz.prog 142 #[.agg #[c0, .int .i64 n, .string t, .slice p l m]] w fun e w' => e = .returned (.bool (decide (n = 0) && decide (t.size = 0))) ∧ Below w.heap.size w w' := by
  go_enter Tryz.func142, Tryz.ntmps142
  go_wp2_with fail
  · have h := ‹n = 0›
    go_ret
    exact ⟨ret_bool (by simp [h, str_nil_b]), below_alloc _ _⟩
  · have h := ‹¬ n = 0›
    go_ret
    exact ⟨ret_bool (by simp [h]), below_alloc _ _⟩
theorem isNumber_is (c0 : Value) (n : Int) (t : ByteArray) (p : Option Addr) (l m : Nat) (b : Bool) (hb : (decide (t.size = 0) && decide (l = 0)) = b) (w : World) :
    Calls Tryz.prog 127 #[.agg #[c0, .int .i64 n, .string t, .slice p l m]] w fun e w' => e = .returned (.bool b) ∧ Below w.heap.size w w' := by
  subst hb; exact isNumber_any _ _ _ _ _ _ _
theorem isText_is (c0 : Value) (n : Int) (t : ByteArray) (p : Option Addr) (l m : Nat) (b : Bool) (hb : (decide (n = 0) && decide (l = 0)) = b) (w : World) :
    Calls Tryz.prog 133 #[.agg #[c0, .int .i64 n, .string t, .slice p l m]] w fun e w' => e = .returned (.bool b) ∧ Below w.heap.size w w' := by
  subst hb; exact isText_any _ _ _ _ _ _ _
theorem isItems_is (c0 : Value) (n : Int) (t : ByteArray) (p : Option Addr) (l m : Nat) (b : Bool) (hb : (decide (n = 0) && decide (t.size = 0)) = b) (w : World) :
    Calls Tryz.prog 142 #[.agg #[c0, .int .i64 n, .string t, .slice p l m]] w fun e w' => e = .returned (.bool b) ∧ Below w.heap.size w w' := by
  subst hb; exact isItems_any _ _ _ _ _ _ _

theorem plain_no {s : ByteArray} {k : Nat} (h : k < s.size) (hn : plainB s[k] = false) : plainOk s.data.toList = false := by
  have : s.data.toList.all plainB = false := by
    rw [List.all_eq_false]; exact ⟨s[k], mem_at s k h, by simp [hn]⟩
  unfold plainOk; rw [this]; simp
theorem plain_yes {s : ByteArray} (h2 : s.size ≤ 20) (h4 : s.data.toList.all plainB = true) : plainOk s.data.toList = true := by
  have e : s.data.toList.length = s.size := by simp
  unfold plainOk; rw [h4, e]; simp [h2]
theorem plain_all {s : ByteArray} {k : Nat} (h : s.size ≤ k) (hk : (s.data.toList.take k).all plainB = true) : s.data.toList.all plainB = true := by
  rw [← List.take_of_length_le (l := s.data.toList) (i := k) (by rw [len_list]; omega)]; exact hk

theorem plainText_any (s : ByteArray) (w : World) (hs : s.size ≤ 9223372036854775807) :
    Calls Tryz.prog 134 #[.string s] w fun e w' => e = .returned (.bool (plainOk s.data.toList)) ∧ w = w' := by
  by_cases h20 : 20 < s.size
  · have HR : Hid (plainOk s.data.toList = false) := by show _ = _; unfold plainOk; rw [len_list]; simp; omega
    have h : (20 : Int) < s.size := by omega
    clear h20
    go_enter Tryz.func134, Tryz.ntmps134
    go_wp2_with fail
    go_ret
    exact ⟨ret_bool HR.out.symm, rfl⟩
  · have h : (s.size : Int) ≤ 20 := by omega
    go_enter Tryz.func134, Tryz.ntmps134
    go_wp2_with fail
    go_loop [9] (fun i => ∃ k : Nat, k ≤ s.size ∧ i = .int .i64 k ∧ Hid ((s.data.toList.take k).all plainB = true)) (fun i => s.size - (intOf i).toNat)
    case atStart => exact ⟨0, Nat.zero_le _, rfl, rfl⟩
    case round =>
      obtain ⟨k, hk, rfl, HK⟩ := hrel
      by_cases hlt : k < s.size
      · by_cases h1 : 32 ≤ (s[k].toNat : Int)
        · by_cases h2 : (s[k].toNat : Int) ≤ 126
          · cases h3 : ((s[k].toNat : Int) == 34)
            · have HN : Hid (plainB s[k] = true) := by show _ = _; unfold plainB; rw [h3]; simp [h1, h2]
              go_wp2_with fail
              go_round
              case rel => exact ⟨k + 1, hlt, by go_num, all_snoc hlt HK.out HN.out⟩
              case measure => simp [intOf]; omega
            · have HN : Hid (plainB s[k] = false) := by show _ = _; unfold plainB; rw [h3]; simp
              go_wp2_with fail
              go_ret
              exact ⟨ret_bool (plain_no hlt HN.out).symm, rfl⟩
          · have HN : Hid (plainB s[k] = false) := by show _ = _; unfold plainB; simp [h2]
            have h2 : (126 : Int) < s[k].toNat := by omega
            go_wp2_with fail
            go_ret
            exact ⟨ret_bool (plain_no hlt HN.out).symm, rfl⟩
        · have HN : Hid (plainB s[k] = false) := by show _ = _; unfold plainB; simp [h1]
          have h1 : (s[k].toNat : Int) < 32 := by omega
          go_wp2_with fail
          go_ret
          exact ⟨ret_bool (plain_no hlt HN.out).symm, rfl⟩
      · go_wp2_with fail
        go_ret
        exact ⟨ret_bool (plain_yes (by omega) (plain_all (by omega) HK.out)).symm, rfl⟩

/-- The kinds are not the same. -/
theorem fr_no (k k' n : Int) (t : ByteArray) (p1 p2 p3 p : Option Addr) (n1 n2 n3 m1 m2 m3 l m : Nat) (w : World) (hne : ¬ k' = k) :
    Calls Tryz.prog 62 #[.agg #[.int .i64 k, .slice p1 n1 m1, .slice p2 n2 m2, .slice p3 n3 m3], .agg #[.int .i64 k', .int .i64 n, .string t, .slice p l m]] w fun e w' => e = .returned (.bool false) ∧ Below w.heap.size w w' := by
  have h : (k' == k) = false := by simpa using hne
  clear hne
  go_enter Tryz.func62, Tryz.ntmps62
  go_wp2_with fail
  go_quiet (fail)
  go_wp2_with fail
  go_ret
  exact ⟨rfl, below_drewN ((below_alloc w _).alloc (by simp) _) _⟩

set_option maxHeartbeats 1000000 in
/-- .. are: the method is asked. -/
theorem fr_ask (T F : Nat) (k n : Int) (t : ByteArray) (p1 p2 p3 p : Option Addr) (n1 n2 n3 m1 m2 m3 l m : Nat) (w : World) (b : Bool)
    (hm : ∀ (v : Value) (w : World), (method 243 T v "loop.example/g00848/impl.fits").run Tryz.prog w = .ok (F, v) w)
    (hF : ∀ (args : Array Value) (w : World), (callFunc F args).run Tryz.prog w = .ok (.enter F args) w)
    (hk : ∀ w, Calls Tryz.prog 79 #[.agg #[.int .i64 k, .slice p1 n1 m1, .slice p2 n2 m2, .slice p3 n3 m3]] w fun e w' => e = .returned (.iface T (.agg #[.int .i64 k, .slice p1 n1 m1, .slice p2 n2 m2, .slice p3 n3 m3])) ∧ Below w.heap.size w w')
    (hs : ∀ w', Keeps w w' → Calls Tryz.prog F #[.agg #[.int .i64 k, .slice p1 n1 m1, .slice p2 n2 m2, .slice p3 n3 m3], .agg #[.int .i64 k, .int .i64 n, .string t, .slice p l m]] w' fun e w'' => e = .returned (.bool b) ∧ Below w'.heap.size w' w'') :
    Calls Tryz.prog 62 #[.agg #[.int .i64 k, .slice p1 n1 m1, .slice p2 n2 m2, .slice p3 n3 m3], .agg #[.int .i64 k, .int .i64 n, .string t, .slice p l m]] w fun e w' => e = .returned (.bool b) ∧ Below w.heap.size w w' := by
  have HK := Lib.hid hk
  have HS := Lib.hid hs
  have HB := Lib.hid (fun o1 o2 => (below_alloc w o1).alloc (by simp) o2)
  clear hk hs
  go_enter Tryz.func62, Tryz.ntmps62
  go_wp2_with fail
  have hS0 := Lib.hid (two_new w (.cells #[.int .i64 k, .slice p1 n1 m1, .slice p2 n2 m2, .slice p3 n3 m3] 26) (.cells #[.int .i64 k, .int .i64 n, .string t, .slice p l m] 29))
  obtain ⟨W, hW⟩ : ∃ W, W = ((w.alloc (.cells #[.int .i64 k, .slice p1 n1 m1, .slice p2 n2 m2, .slice p3 n3 m3] 26)).alloc (.cells #[.int .i64 k, .int .i64 n, .string t, .slice p l m] 29)) := ⟨_, rfl⟩
  have HBW : Hid (Below w.heap.size w W) := by show Below _ _ _; rw [hW]; exact HB.out _ _
  have hS := hS0.out
  rw [← hW] at hS ⊢
  have S1 := Lib.hid hS.1
  have S2 := Lib.hid hS.2
  clear hS hW
  obtain ⟨a0, a1, a2, a3, _, _, _, _, az⟩ := blk4 S1.out
  obtain ⟨b0, b1, b2, b3, _, _, _, _, bz⟩ := blk4 S2.out
  go_region_with (first
    | (go_at_call 79; refine (HK.out _).mono ?_; rintro e w1 ⟨rfl, hb1⟩; have HB1 := Lib.hid (HBW.out.drew.trans (hb1.mono HBW.out.size)); obtain ⟨_, _, _, _, _, _, _, _, _⟩ := blk4 (blk_below (w := W.drew) S2.out hb1 bz); obtain ⟨_, _, _, _, _, _, _, _, _⟩ := blk4 (blk_below (w := W.drew) S1.out hb1 az); clear hb1)
    | (refine (HS.out _ (Keeps.of_below HB1.out)).mono ?_; rintro e w2 ⟨rfl, hb2⟩; have HB2 := Lib.hid (HB1.out.trans (hb2.mono HB1.out.size)); clear hb2))
  all_goals
    go_wp2_with fail
    go_ret
    exact ⟨rfl, HB2.out⟩
end Go.Proofs.YtnnjhcjalmdmcaaGreat
namespace Go.Proofs.YtnnjhcjalmdmcaaGreat
open Go.RowKit

theorem fm_flag (v : Value) (w : World) : (method 243 115 v "loop.example/g00848/impl.fits").run Tryz.prog w = .ok (125, v) w := by kernel_rfl
theorem fe_flag (args : Array Value) (w : World) : (callFunc 125 args).run Tryz.prog w = .ok (.enter 125 args) w := enter_of Tryz.func125 (by kernel_rfl) rfl args w
theorem fm_num (v : Value) (w : World) : (method 243 116 v "loop.example/g00848/impl.fits").run Tryz.prog w = .ok (129, v) w := by kernel_rfl
theorem fe_num (args : Array Value) (w : World) : (callFunc 129 args).run Tryz.prog w = .ok (.enter 129 args) w := enter_of Tryz.func129 (by kernel_rfl) rfl args w
theorem fm_text (v : Value) (w : World) : (method 243 117 v "loop.example/g00848/impl.fits").run Tryz.prog w = .ok (131, v) w := by kernel_rfl
theorem fe_text (args : Array Value) (w : World) : (callFunc 131 args).run Tryz.prog w = .ok (.enter 131 args) w := enter_of Tryz.func131 (by kernel_rfl) rfl args w
theorem fm_pick (v : Value) (w : World) : (method 243 118 v "loop.example/g00848/impl.fits").run Tryz.prog w = .ok (135, v) w := by kernel_rfl
theorem fe_pick (args : Array Value) (w : World) : (callFunc 135 args).run Tryz.prog w = .ok (.enter 135 args) w := enter_of Tryz.func135 (by kernel_rfl) rfl args w
theorem fm_maybe (v : Value) (w : World) : (method 243 119 v "loop.example/g00848/impl.fits").run Tryz.prog w = .ok (140, v) w := by kernel_rfl
theorem fe_maybe (args : Array Value) (w : World) : (callFunc 140 args).run Tryz.prog w = .ok (.enter 140 args) w := enter_of Tryz.func140 (by kernel_rfl) rfl args w
theorem fm_list (v : Value) (w : World) : (method 243 120 v "loop.example/g00848/impl.fits").run Tryz.prog w = .ok (145, v) w := by kernel_rfl
theorem fe_list (args : Array Value) (w : World) : (callFunc 145 args).run Tryz.prog w = .ok (.enter 145 args) w := enter_of Tryz.func145 (by kernel_rfl) rfl args w
theorem fm_rec (v : Value) (w : World) : (method 243 121 v "loop.example/g00848/impl.fits").run Tryz.prog w = .ok (147, v) w := by kernel_rfl
theorem fe_rec (args : Array Value) (w : World) : (callFunc 147 args).run Tryz.prog w = .ok (.enter 147 args) w := enter_of Tryz.func147 (by kernel_rfl) rfl args w

theorem flagFits_any (c0 : Value) (k n : Int) (t : ByteArray) (p1 p2 p3 p : Option Addr) (n1 n2 n3 m1 m2 m3 l m : Nat) (w : World) :
    Calls Tryz.prog 125 #[.agg #[c0, .slice p1 n1 m1, .slice p2 n2 m2, .slice p3 n3 m3], .agg #[.int .i64 k, .int .i64 n, .string t, .slice p l m]] w fun e w' => e = .returned (.bool ((decide (t.size = 0) && decide (l = 0)) && (decide (0 ≤ n) && decide (n ≤ 1)))) ∧ Below w.heap.size w w' := by
  have HB := Lib.hid (fun o1 o2 => (below_alloc w o1).alloc (by simp) o2)
  cases hb : (decide (t.size = 0) && decide (l = 0))
  · have H := Lib.hid hb
    clear hb
    go_enter Tryz.func125, Tryz.ntmps125
    go_wp2_with fail
    refine (isNumber_is _ _ _ _ _ _ _ H.out _).mono ?_
    rintro e w1 ⟨rfl, hb1⟩
    have HB1 := Lib.hid ((HB.out _ _).trans (hb1.mono (by simp; omega)))
    clear hb1
    go_wp2_with fail
    go_ret
    exact ⟨rfl, HB1.out⟩
  · have H := Lib.hid hb
    clear hb
    have HX := Lib.hid (two_new w (.cells #[c0, .slice p1 n1 m1, .slice p2 n2 m2, .slice p3 n3 m3] 115) (.cells #[.int .i64 k, .int .i64 n, .string t, .slice p l m] 29))
    by_cases h0 : 0 ≤ n
    · by_cases h1 : n ≤ 1
      · have HR : Hid ((decide (0 ≤ n) && decide (n ≤ 1)) = true) := by show _ = _; simp [h0, h1]
        go_enter Tryz.func125, Tryz.ntmps125
        go_wp2_with fail
        refine (isNumber_is _ _ _ _ _ _ _ H.out _).mono ?_
        rintro e w1 ⟨rfl, hb1⟩
        have HB1 := Lib.hid ((HB.out _ _).trans (hb1.mono (by simp; omega)))
        obtain ⟨b0, b1, b2, b3, _, _, _, _, bz⟩ := blk4 (blk_below HX.out.2 hb1 (by simp))
        clear hb1
        go_wp2_with fail
        go_ret
        exact ⟨ret_bool HR.out.symm, HB1.out⟩
      · have HR : Hid (decide (n ≤ 1) = (true && (decide (0 ≤ n) && decide (n ≤ 1)))) := by show _ = _; simp [h0]
        have h1 : 1 < n := by omega
        go_enter Tryz.func125, Tryz.ntmps125
        go_wp2_with fail
        refine (isNumber_is _ _ _ _ _ _ _ H.out _).mono ?_
        rintro e w1 ⟨rfl, hb1⟩
        have HB1 := Lib.hid ((HB.out _ _).trans (hb1.mono (by simp; omega)))
        obtain ⟨b0, b1, b2, b3, _, _, _, _, bz⟩ := blk4 (blk_below HX.out.2 hb1 (by simp))
        clear hb1
        go_wp2_with fail
        go_ret
        exact ⟨ret_bool HR.out, HB1.out⟩
    · have HR : Hid ((decide (0 ≤ n) && decide (n ≤ 1)) = false) := by show _ = _; simp [h0]
      have h0 : n < 0 := by omega
      go_enter Tryz.func125, Tryz.ntmps125
      go_wp2_with fail
      refine (isNumber_is _ _ _ _ _ _ _ H.out _).mono ?_
      rintro e w1 ⟨rfl, hb1⟩
      have HB1 := Lib.hid ((HB.out _ _).trans (hb1.mono (by simp; omega)))
      obtain ⟨b0, b1, b2, b3, _, _, _, _, bz⟩ := blk4 (blk_below HX.out.2 hb1 (by simp))
      clear hb1
      go_wp2_with fail
      go_ret
      exact ⟨ret_bool HR.out.symm, HB1.out⟩

theorem numFits_any (c0 : Value) (k n : Int) (t : ByteArray) (p1 p2 p3 p : Option Addr) (n1 n2 n3 m1 m2 m3 l m : Nat) (w : World) :
    Calls Tryz.prog 129 #[.agg #[c0, .slice p1 n1 m1, .slice p2 n2 m2, .slice p3 n3 m3], .agg #[.int .i64 k, .int .i64 n, .string t, .slice p l m]] w fun e w' => e = .returned (.bool ((decide (t.size = 0) && decide (l = 0)) && (decide (0 ≤ n) && decide (n ≤ 1000000)))) ∧ Below w.heap.size w w' := by
  have HB := Lib.hid (fun o1 o2 => (below_alloc w o1).alloc (by simp) o2)
  cases hb : (decide (t.size = 0) && decide (l = 0))
  · have H := Lib.hid hb
    clear hb
    go_enter Tryz.func129, Tryz.ntmps129
    go_wp2_with fail
    refine (isNumber_is _ _ _ _ _ _ _ H.out _).mono ?_
    rintro e w1 ⟨rfl, hb1⟩
    have HB1 := Lib.hid ((HB.out _ _).trans (hb1.mono (by simp; omega)))
    clear hb1
    go_wp2_with fail
    go_ret
    exact ⟨rfl, HB1.out⟩
  · have H := Lib.hid hb
    clear hb
    have HX := Lib.hid (two_new w (.cells #[c0, .slice p1 n1 m1, .slice p2 n2 m2, .slice p3 n3 m3] 116) (.cells #[.int .i64 k, .int .i64 n, .string t, .slice p l m] 29))
    by_cases h0 : 0 ≤ n
    · by_cases h1 : n ≤ 1000000
      · have HR : Hid ((decide (0 ≤ n) && decide (n ≤ 1000000)) = true) := by show _ = _; simp [h0, h1]
        go_enter Tryz.func129, Tryz.ntmps129
        go_wp2_with fail
        refine (isNumber_is _ _ _ _ _ _ _ H.out _).mono ?_
        rintro e w1 ⟨rfl, hb1⟩
        have HB1 := Lib.hid ((HB.out _ _).trans (hb1.mono (by simp; omega)))
        obtain ⟨b0, b1, b2, b3, _, _, _, _, bz⟩ := blk4 (blk_below HX.out.2 hb1 (by simp))
        clear hb1
        go_wp2_with fail
        go_ret
        exact ⟨ret_bool HR.out.symm, HB1.out⟩
      · have HR : Hid (decide (n ≤ 1000000) = (true && (decide (0 ≤ n) && decide (n ≤ 1000000)))) := by show _ = _; simp [h0]
        have h1 : 1000000 < n := by omega
        go_enter Tryz.func129, Tryz.ntmps129
        go_wp2_with fail
        refine (isNumber_is _ _ _ _ _ _ _ H.out _).mono ?_
        rintro e w1 ⟨rfl, hb1⟩
        have HB1 := Lib.hid ((HB.out _ _).trans (hb1.mono (by simp; omega)))
        obtain ⟨b0, b1, b2, b3, _, _, _, _, bz⟩ := blk4 (blk_below HX.out.2 hb1 (by simp))
        clear hb1
        go_wp2_with fail
        go_ret
        exact ⟨ret_bool HR.out, HB1.out⟩
    · have HR : Hid ((decide (0 ≤ n) && decide (n ≤ 1000000)) = false) := by show _ = _; simp [h0]
      have h0 : n < 0 := by omega
      go_enter Tryz.func129, Tryz.ntmps129
      go_wp2_with fail
      refine (isNumber_is _ _ _ _ _ _ _ H.out _).mono ?_
      rintro e w1 ⟨rfl, hb1⟩
      have HB1 := Lib.hid ((HB.out _ _).trans (hb1.mono (by simp; omega)))
      obtain ⟨b0, b1, b2, b3, _, _, _, _, bz⟩ := blk4 (blk_below HX.out.2 hb1 (by simp))
      clear hb1
      go_wp2_with fail
      go_ret
      exact ⟨ret_bool HR.out.symm, HB1.out⟩

theorem textFits_any (c0 : Value) (k n : Int) (t : ByteArray) (p1 p2 p3 p : Option Addr) (n1 n2 n3 m1 m2 m3 l m : Nat) (w : World) (ht : t.size ≤ 9223372036854775807) :
    Calls Tryz.prog 131 #[.agg #[c0, .slice p1 n1 m1, .slice p2 n2 m2, .slice p3 n3 m3], .agg #[.int .i64 k, .int .i64 n, .string t, .slice p l m]] w fun e w' => e = .returned (.bool ((decide (n = 0) && decide (l = 0)) && plainOk t.data.toList)) ∧ Below w.heap.size w w' := by
  have HB := Lib.hid (fun o1 o2 => (below_alloc w o1).alloc (by simp) o2)
  cases hb : (decide (n = 0) && decide (l = 0))
  · have H := Lib.hid hb
    clear hb
    go_enter Tryz.func131, Tryz.ntmps131
    go_wp2_with fail
    refine (isText_is _ _ _ _ _ _ _ H.out _).mono ?_
    rintro e w1 ⟨rfl, hb1⟩
    have HB1 := Lib.hid ((HB.out _ _).trans (hb1.mono (by simp; omega)))
    clear hb1
    go_wp2_with fail
    go_ret
    exact ⟨rfl, HB1.out⟩
  · have H := Lib.hid hb
    clear hb
    have HX := Lib.hid (two_new w (.cells #[c0, .slice p1 n1 m1, .slice p2 n2 m2, .slice p3 n3 m3] 117) (.cells #[.int .i64 k, .int .i64 n, .string t, .slice p l m] 29))
    have HT := Lib.hid ht
    clear ht
    go_enter Tryz.func131, Tryz.ntmps131
    go_wp2_with fail
    refine (isText_is _ _ _ _ _ _ _ H.out _).mono ?_
    rintro e w1 ⟨rfl, hb1⟩
    have HB1 := Lib.hid ((HB.out _ _).trans (hb1.mono (by simp; omega)))
    obtain ⟨b0, b1, b2, b3, _, _, _, _, bz⟩ := blk4 (blk_below HX.out.2 hb1 (by simp))
    clear hb1
    go_wp2_with fail
    refine (plainText_any _ _ HT.out).mono ?_
    rintro e w' ⟨rfl, rfl⟩
    go_wp2_with fail
    go_ret
    exact ⟨rfl, HB1.out⟩

theorem pickFits_any (c0 : Value) (k n : Int) (t : ByteArray) (p1 p2 p3 p : Option Addr) (n2 n3 m1 m2 m3 l m : Nat) (sy : List ByteArray) (w : World) (hs : IsStrs w (.slice p1 sy.length m1) sy) :
    Calls Tryz.prog 135 #[.agg #[c0, .slice p1 sy.length m1, .slice p2 n2 m2, .slice p3 n3 m3], .agg #[.int .i64 k, .int .i64 n, .string t, .slice p l m]] w fun e w' => e = .returned (.bool ((decide (n = 0) && decide (l = 0)) && hasB sy t)) ∧ Below w.heap.size w w' := by
  have HB := Lib.hid (fun o1 o2 => (below_alloc w o1).alloc (by simp) o2)
  cases hb : (decide (n = 0) && decide (l = 0))
  · have H := Lib.hid hb
    clear hb
    go_enter Tryz.func135, Tryz.ntmps135
    go_wp2_with fail
    refine (isText_is _ _ _ _ _ _ _ H.out _).mono ?_
    rintro e w1 ⟨rfl, hb1⟩
    have HB1 := Lib.hid ((HB.out _ _).trans (hb1.mono (by simp; omega)))
    clear hb1
    go_wp2_with fail
    go_ret
    exact ⟨rfl, HB1.out⟩
  · have H := Lib.hid hb
    clear hb
    have HX := Lib.hid (two_new w (.cells #[c0, .slice p1 sy.length m1, .slice p2 n2 m2, .slice p3 n3 m3] 118) (.cells #[.int .i64 k, .int .i64 n, .string t, .slice p l m] 29))
    have HS := Lib.hid hs
    clear hs
    go_enter Tryz.func135, Tryz.ntmps135
    go_wp2_with fail
    refine (isText_is _ _ _ _ _ _ _ H.out _).mono ?_
    rintro e w1 ⟨rfl, hb1⟩
    have HB1 := Lib.hid ((HB.out _ _).trans (hb1.mono (by simp; omega)))
    obtain ⟨a0, a1, a2, a3, _, _, _, _, az⟩ := blk4 (blk_below HX.out.1 hb1 (by simp; omega))
    obtain ⟨b0, b1, b2, b3, _, _, _, _, bz⟩ := blk4 (blk_below HX.out.2 hb1 (by simp))
    clear hb1
    go_wp2_with fail
    refine (contains_any _ sy _ _ (HS.out.keep (Keeps.of_below HB1.out))).mono ?_
    rintro e w' ⟨rfl, rfl⟩
    go_wp2_with fail
    go_ret
    exact ⟨rfl, HB1.out⟩


theorem vall_take_succ {f : Va → Bool} {l : List Va} {k : Nat} (h : k < l.length) (hk : (l.take k).all f = true) (hn : f l[k] = true) : (l.take (k + 1)).all f = true := by
  rw [List.take_succ_eq_append_getElem h, List.all_append, hk]; simp [hn]
theorem vall_at_no {f : Va → Bool} {l : List Va} {k : Nat} (h : k < l.length) (hn : f l[k] = false) : l.all f = false := by
  rw [List.all_eq_false]; exact ⟨l[k], List.getElem_mem h, by simp [hn]⟩

/-- impl.fitsRight's contract at the right shapes of so many levels. -/
def FrAt (d : Nat) : Prop := ∀ (t : Sh) (x : Va) (v u : Value) (w : World), partOk d t = true → IsSh w t v → IsVa w x u →
  Calls Tryz.prog 62 #[v, u] w fun e w' => e = .returned (.bool (fitB t x)) ∧ Below w.heap.size w w'

set_option maxHeartbeats 1000000 in
theorem allFit_any (d : Nat) (ih : FrAt d) (s : Sh) (hp : partOk d s = true) (v u : Value) (l : List Va) (w : World) (h : IsSh w s v) (g : IsVas w u l) :
    Calls Tryz.prog 143 #[v, u] w fun e w' => e = .returned (.bool (l.all (fitB s))) ∧ Below w.heap.size w w' := by
  have HS := Lib.hid h
  have HP := Lib.hid hp
  have IH := Lib.hid ih
  obtain ⟨p1, n1, m1, p2, n2, m2, p3, n3, m3, rfl⟩ := h.agg
  obtain ⟨a, cap, rfl, h3, h4, h6⟩ := g
  have H6 := Lib.hid h6
  have HX0 := Lib.hid (Go.Deep.blk_alloc_new w (.cells #[.int .i64 s.kd, .slice p1 n1 m1, .slice p2 n2 m2, .slice p3 n3 m3] 26))
  clear h hp ih h6
  go_enter Tryz.func143, Tryz.ntmps143
  go_wp2_with fail
  go_loopw [9] (fun i wr => ∃ j : Nat, j ≤ l.length ∧ i = .int .i64 j ∧ Hid ((l.take j).all (fitB s) = true) ∧ Hid (Below w.heap.size w wr) ∧ Hid (wr.heap[w.heap.size]? = some (.cells #[.int .i64 s.kd, .slice p1 n1 m1, .slice p2 n2 m2, .slice p3 n3 m3] 26 (0, 0)))) (fun i _ => l.length - (intOf i).toNat)
  case atStart => exact ⟨0, Nat.zero_le _, rfl, rfl, below_alloc _ _, HX0.out⟩
  case round =>
    obtain ⟨j, hj, rfl, HJ, HBr, HX⟩ := hrel
    by_cases hlt : j < l.length
    · obtain ⟨b, off, rfl, c0, c1, c2, c3, g0, g1, g2, g3, g4⟩ := IsVas.at H6.out hlt
      have HKp := Lib.hid (Keeps.of_below HBr.out)
      have k0 := HKp.out _ _ _ g0
      have k1 := HKp.out _ _ _ g1
      have k2 := HKp.out _ _ _ g2
      have k3 := HKp.out _ _ _ g3
      have K4 := Lib.hid (IsVa.keep HKp.out _ _ g4)
      obtain ⟨q3, j3, rfl, rfl, rfl, rfl⟩ := g4.cells
      obtain ⟨a0, a1, a2, a3, _, _, _, _, az⟩ := blk4 HX.out
      have HN := Lib.hid (HBr.out.alloc HBr.out.size (.cells #[.int .i64 l[j].kd, .int .i64 l[j].nn, .string l[j].tx, .slice q3 l[j].it.length j3] 29))
      have HXN := Lib.hid (blk_below HX.out (below_alloc wr (.cells #[.int .i64 l[j].kd, .int .i64 l[j].nn, .string l[j].tx, .slice q3 l[j].it.length j3] 29)) az)
      clear g0 g1 g2 g3 g4
      cases hp : fitB s l[j]
      · have HE := Lib.hid hp
        have HF := Lib.hid (vall_at_no (f := fitB s) hlt hp)
        clear hp
        go_wp2_with fail
        refine (IH.out s l[j] _ _ _ HP.out (IsSh.keep (Keeps.of_below HN.out) _ _ HS.out) (IsVa.keep (keeps_alloc _ _) _ _ K4.out)).mono ?_
        rintro e w3 ⟨rfl, hb3⟩
        rw [HE.out]
        have HB3 := Lib.hid (HN.out.trans (hb3.mono HN.out.size))
        clear hb3
        go_wp2_with fail
        go_ret
        exact ⟨ret_bool HF.out.symm, HB3.out⟩
      · have HE := Lib.hid hp
        have HF := Lib.hid (vall_take_succ (f := fitB s) hlt HJ.out hp)
        clear hp
        go_wp2_with fail
        refine (IH.out s l[j] _ _ _ HP.out (IsSh.keep (Keeps.of_below HN.out) _ _ HS.out) (IsVa.keep (keeps_alloc _ _) _ _ K4.out)).mono ?_
        rintro e w3 ⟨rfl, hb3⟩
        rw [HE.out]
        have HX3 := Lib.hid (blk_below HXN.out hb3 (by simp; omega))
        have HB3 := Lib.hid (HN.out.trans (hb3.mono HN.out.size))
        clear hb3
        go_wp2_with fail
        go_roundw
        case rel => exact ⟨j + 1, hlt, by go_num, HF.out, HB3.out, HX3.out⟩
        case measure => simp [intOf]; omega
    · obtain rfl : j = l.length := by omega
      have HF : Hid (l.all (fitB s) = true) := by have := HJ.out; rwa [List.take_length] at this
      go_wp2_with fail
      go_ret
      exact ⟨ret_bool HF.out.symm, HBr.out⟩
end Go.Proofs.YtnnjhcjalmdmcaaGreat
namespace Go.Proofs.YtnnjhcjalmdmcaaGreat
open Go.RowKit

theorem IsShs.one {w : World} {p : Option Addr} {n m : Nat} {x : Sh} (h : IsShs w (.slice p n m) [x]) :
    n = 1 ∧ 1 ≤ m ∧ m ≤ 9223372036854775807 ∧ ∃ b off q1 i1 j1 q2 i2 j2 q3 i3 j3, p = some ⟨b, off, none⟩ ∧ w.cell? ⟨b, off, none⟩ = some (.int .i64 x.kd) ∧ w.cell? ⟨b, off + 1, none⟩ = some (.slice q1 i1 j1) ∧ w.cell? ⟨b, off + 2, none⟩ = some (.slice q2 i2 j2) ∧ w.cell? ⟨b, off + 3, none⟩ = some (.slice q3 i3 j3) ∧
      IsSh w x (.agg #[.int .i64 x.kd, .slice q1 i1 j1, .slice q2 i2 j2, .slice q3 i3 j3]) := by
  obtain ⟨a, cap, he, h3, h4, h6⟩ := h
  simp only [Value.slice.injEq] at he
  obtain ⟨rfl, rfl, rfl⟩ := he
  obtain ⟨b, off, rfl, c0, c1, c2, c3, g0, g1, g2, g3, g4⟩ := IsShs.at h6 (k := 0) (by simp)
  obtain ⟨q1, i1, j1, q2, i2, j2, q3, i3, j3, rfl, rfl, rfl, rfl⟩ := g4.cells
  exact ⟨rfl, by simpa using h3, h4, b, off, q1, i1, j1, q2, i2, j2, q3, i3, j3, rfl, by simpa using g0, by simpa using g1, by simpa using g2, by simpa using g3, g4⟩

set_option maxRecDepth 100000 in
set_option maxHeartbeats 1000000 in
theorem maybeFits_any (d : Nat) (ih : FrAt d) (x : Sh) (hp : partOk d x = true) (c0 : Value) (k n : Int) (t : ByteArray) (p1 p2 p3 p : Option Addr) (n1 n2 n3 m1 m2 m3 m : Nat) (it : List Va) (w : World) (hs : IsShs w (.slice p3 n3 m3) [x]) (hv : IsVas w (.slice p it.length m) it) :
    Calls Tryz.prog 140 #[.agg #[c0, .slice p1 n1 m1, .slice p2 n2 m2, .slice p3 n3 m3], .agg #[.int .i64 k, .int .i64 n, .string t, .slice p it.length m]] w fun e w' => e = .returned (.bool ((decide (n = 0) && decide (t.size = 0)) && (decide (it.length ≤ 1) && it.all (fitB x)))) ∧ Below w.heap.size w w' := by
  obtain ⟨rfl, hm1, hm2, b, off, q1, i1, j1, q2, i2, j2, q3, i3, j3, rfl, g0, g1, g2, g3, g4⟩ := hs.one
  have HB := Lib.hid (fun o1 o2 => (below_alloc w o1).alloc (by simp) o2)
  have hX := two_new w (.cells #[c0, .slice p1 n1 m1, .slice p2 n2 m2, .slice (some ⟨b, off, none⟩) 1 m3] 119) (.cells #[.int .i64 k, .int .i64 n, .string t, .slice p it.length m] 29)
  have HV := Lib.hid hv
  have HC := Lib.hid (And.intro g0 (And.intro g1 (And.intro g2 g3)))
  have HX := Lib.hid g4
  have IH := Lib.hid ih
  have HP := Lib.hid hp
  obtain ⟨W, hW⟩ : ∃ W, W = ((w.alloc (.cells #[c0, .slice p1 n1 m1, .slice p2 n2 m2, .slice (some ⟨b, off, none⟩) 1 m3] 119)).alloc (.cells #[.int .i64 k, .int .i64 n, .string t, .slice p it.length m] 29)) := ⟨_, rfl⟩
  have HBW : Hid (Below w.heap.size w W) := by show Below _ _ _; rw [hW]; exact HB.out _ _
  rw [← hW] at hX
  have S1 := Lib.hid hX.1
  have S2 := Lib.hid hX.2
  have HW := Lib.hid hW
  clear hs hv g0 g1 g2 g3 g4 ih hp hX hW
  cases hb : (decide (n = 0) && decide (t.size = 0))
  · have H := Lib.hid hb
    clear hb
    go_enter Tryz.func140, Tryz.ntmps140
    go_wp2_with fail
    rw [← HW.out]
    obtain ⟨b0, b1, b2, b3, _, _, _, _, bz⟩ := blk4 S2.out
    first
      | go_region_with (go_at_call 142; refine (isItems_is _ _ _ _ _ _ _ H.out _).mono ?_; rintro e w1 ⟨rfl, hb1⟩; have HB1 := Lib.hid (HBW.out.drew.trans (hb1.mono HBW.out.size)); clear hb1)
      | fail
    all_goals
      go_wp2_with fail
      go_ret
      exact ⟨rfl, HB1.out⟩
  · have H := Lib.hid hb
    clear hb
    by_cases hl : it.length ≤ 1
    · have HL := Lib.hid hl
      have HR : Hid (it.all (fitB x) = (true && (decide (it.length ≤ 1) && it.all (fitB x)))) := by show _ = _; simp [hl]
      have hl : (it.length : Int) ≤ 1 := by omega
      go_enter Tryz.func140, Tryz.ntmps140
      go_wp2_with fail
      rw [← HW.out]
      obtain ⟨b0, b1, b2, b3, _, _, _, _, bz⟩ := blk4 S2.out
      obtain ⟨a0, a1, a2, a3, _, _, _, _, az⟩ := blk4 S1.out
      first
        | go_region_with (first
            | (go_at_call 142; refine (isItems_is _ _ _ _ _ _ _ H.out _).mono ?_; rintro e w1 ⟨rfl, hb1⟩; have HB1 := Lib.hid (HBW.out.drew.trans (hb1.mono HBW.out.size)); obtain ⟨_, _, _, _, _, _, _, _, _⟩ := blk4 (blk_below (w := W.drew) S2.out hb1 bz); obtain ⟨_, _, _, _, _, _, _, _, _⟩ := blk4 (blk_below (w := W.drew) S1.out hb1 az); have y0 := Keeps.of_below HB1.out _ _ _ HC.out.1; have y1 := Keeps.of_below HB1.out _ _ _ HC.out.2.1; have y2 := Keeps.of_below HB1.out _ _ _ HC.out.2.2.1; have y3 := Keeps.of_below HB1.out _ _ _ HC.out.2.2.2; clear hb1)
            | (go_at_call 143; refine (allFit_any d IH.out x HP.out _ _ it _ (IsSh.keep (Keeps.of_below HB1.out) _ _ HX.out) (IsVas.keep HV.out (Keeps.of_below HB1.out))).mono ?_; rintro e w2 ⟨rfl, hb2⟩; have HB2 := Lib.hid (HB1.out.trans (hb2.mono HB1.out.size)); clear hb2))
        | fail
      all_goals
        go_wp2_with fail
        go_ret
        exact ⟨ret_bool HR.out, HB2.out⟩
    · have HR : Hid (false = (true && (decide (it.length ≤ 1) && it.all (fitB x)))) := by show _ = _; simp [hl]
      have hl' : decide ((it.length : Int) ≤ 1) = false := by simp; omega
      have hl : (1 : Int) < it.length := by omega
      go_enter Tryz.func140, Tryz.ntmps140
      go_wp2_with fail
      rw [← HW.out]
      obtain ⟨b0, b1, b2, b3, _, _, _, _, bz⟩ := blk4 S2.out
      obtain ⟨a0, a1, a2, a3, _, _, _, _, az⟩ := blk4 S1.out
      first
        | go_region_with (go_at_call 142; refine (isItems_is _ _ _ _ _ _ _ H.out _).mono ?_; rintro e w1 ⟨rfl, hb1⟩; have HB1 := Lib.hid (HBW.out.drew.trans (hb1.mono HBW.out.size)); obtain ⟨_, _, _, _, _, _, _, _, _⟩ := blk4 (blk_below (w := W.drew) S2.out hb1 bz); obtain ⟨_, _, _, _, _, _, _, _, _⟩ := blk4 (blk_below (w := W.drew) S1.out hb1 az); clear hb1)
        | fail
      all_goals
        go_wp2_with fail
        go_ret
        exact ⟨ret_bool HR.out, HB1.out⟩

end Go.Proofs.YtnnjhcjalmdmcaaGreat
