/- Walks: impl.readNum, impl.signed. -/
import Derived.Test.YtbpidhlpakobiaaGreatDoorHOwn
import Derived.Test.YtbpidhlpakobiaaGreatDoorHScope
import Derived.Test.YtbpidhlpakobiaaGreatDoorHGetB
import Derived.WalkLawsBesides
import Derived.Lib.Hide
import Derived.Outline
namespace Go.Proofs.YtbpidhlpakobiaaGreatDoor
open Go.RowKit
/-- What holds where the run jumps: to 'wrong' (0), 'more' (1), 'last' (2). -/
def readJ (s : ByteArray) (R : Int × Int × Int) (w : World) : Nat → Act → World → Prop
  | 0, a, w' => ∃ (c : Int) (u0 u1 u4 u5 u6 u7 u8 u9 u11 u12 u13 u14 u15 u16 u17 u18 u19 u20 u21 u22 u23 u24 u25 u26 u27 u28 u29 u30 u31 u32 u33 u34 u35 u36 u37 u38 u39 u40 u41 u42 u43 u44 u45 u46 u47 u48 u49 u50 u51 u52 u53 : Value), a = { tmps := #[u0, u1, undef, undef, u4, u5, u6, u7, u8, u9, .pointer (some ⟨w.heap.size, 0, none⟩), u11, u12, u13, u14, u15, u16, u17, u18, u19, u20, u21, u22, u23, u24, u25, u26, u27, u28, u29, u30, u31, u32, u33, u34, u35, u36, u37, u38, u39, u40, u41, u42, u43, u44, u45, u46, u47, u48, u49, u50, u51, u52, u53], defers := [] } ∧ w' = w.alloc (.cells #[.int .i64 c] 97) ∧ Hid (R = (0, 0, c) ∧ c ≠ 0)
  | 1, a, w' => ∃ (q u sh i : Nat) (u8 u11 u12 u13 u14 u15 u16 u17 u18 u19 u20 u21 u22 u23 u24 u25 u26 u27 u28 u29 u30 u31 u32 u33 u34 u35 u36 u37 u38 u39 u40 u41 u42 u43 u44 u45 u46 u47 u48 u49 u50 u51 u52 u53 : Value), a = { tmps := #[.string s, .int .i64 q, undef, undef, .int .i64 0, .int .i64 0, .nilIface, .int .u64 u, u8, .int .i64 sh, .pointer (some ⟨w.heap.size, 0, none⟩), u11, u12, u13, u14, u15, u16, u17, u18, u19, u20, u21, u22, u23, u24, u25, u26, u27, u28, u29, u30, u31, u32, u33, u34, u35, u36, u37, u38, u39, u40, u41, u42, u43, u44, u45, u46, u47, u48, u49, u50, u51, u52, u53], defers := [] } ∧ w' = w.alloc (.cells #[.int .i64 4] 97) ∧ sh ≤ 63 ∧ Hid (sh = 7 * i) ∧ Hid (u < 128 ^ i ∧ R = getF s (10 - i) q u) ∧ q ≤ s.size
  | 2, a, w' => ∃ (q u b sh : Nat) (u11 u12 u13 u14 u15 u16 u17 u18 u19 u20 u21 u22 u23 u24 u25 u26 u27 u28 u29 u30 u31 u32 u33 u34 u35 u36 u37 u38 u39 u40 u41 u42 u43 u44 u45 u46 u47 u48 u49 u50 u51 u52 u53 : Value), a = { tmps := #[.string s, .int .i64 q, undef, undef, .int .i64 0, .int .i64 0, .nilIface, .int .u64 u, .int .u8 b, .int .i64 sh, .pointer (some ⟨w.heap.size, 0, none⟩), u11, u12, u13, u14, u15, u16, u17, u18, u19, u20, u21, u22, u23, u24, u25, u26, u27, u28, u29, u30, u31, u32, u33, u34, u35, u36, u37, u38, u39, u40, u41, u42, u43, u44, u45, u46, u47, u48, u49, u50, u51, u52, u53], defers := [] } ∧ w' = w.alloc (.cells #[.int .i64 4] 97) ∧ b < 128 ∧ Hid (u < 18446744073709551616) ∧ Hid (R = if b = 0 ∧ sh ≠ 0 then (0, 0, 3) else (unfoldN u, (q : Int), 0)) ∧ q ≤ s.size ∧ sh ≤ 63
  | _, _, _ => False

/-- The error of a code. -/
def errV (c : Int) : Value := if c = 0 then .nilIface else .iface 97 (.agg #[.int .i64 c])
def readM : Nat → Act → World → Nat := fun l a _ => if l = 1 then 200 - (intOf (a.tmps.getD 9 undef)).toNat else if l = 2 then 1 else 0

theorem ret_err {R : Int × Int × Int} {c : Int} (h : R = (0, 0, c) ∧ c ≠ 0) :
    Ending.returned (.tuple #[.int .i64 0, .int .i64 0, .iface 97 (.agg #[.int .i64 c])]) = .returned (.tuple #[.int .i64 R.1, .int .i64 R.2.1, errV R.2.2]) := by
  obtain ⟨rfl, hc⟩ := h
  simp [errV, hc]
theorem ret_num {R : Int × Int × Int} {n q : Int} (h : R = (n, q, 0)) :
    Ending.returned (.tuple #[.int .i64 n, .int .i64 q, .nilIface]) = .returned (.tuple #[.int .i64 R.1, .int .i64 R.2.1, errV R.2.2]) := by
  subst h
  simp [errV]

theorem signed_any (u : Nat) (w : World) (hu : u < 18446744073709551616) :
    Calls Tryz.prog 191 #[.int .u64 u] w fun e w' => e = .returned (.int .i64 (unfoldN u)) ∧ w = w' := by
  have ha := w_and1 hu
  have h1 : (u : Int) ≤ 18446744073709551615 := by omega
  by_cases h : u % 2 = 1
  · have HO := Lib.hid (unfold_odd hu h)
    have hb : ((bits .and .u64 (u : Int) 1) == 1) = true := by rw [ha, h]; rfl
    clear ha h hu
    go_enter Tryz.func191, Tryz.ntmps191
    go_wp2
    go_ret
    exact ⟨ret_int HO.out, rfl⟩
  · have HO := Lib.hid (unfold_even h)
    have hb : ((bits .and .u64 (u : Int) 1) == 1) = false := by rw [ha]; have : u % 2 = 0 := by omega
                                                                rw [this]; rfl
    clear ha h hu
    go_enter Tryz.func191, Tryz.ntmps191
    go_wp2
    go_ret
    exact ⟨ret_int HO.out, rfl⟩

set_option maxRecDepth 100000 in
set_option maxHeartbeats 1000000 in
theorem readNum_any (s : ByteArray) (p : Int) (w : World) (hs : s.size ≤ 8000) :
    Calls Tryz.prog 177 #[.string s, .int .i64 p] w fun e w' => e = .returned (.tuple #[.int .i64 (getRes s p).1, .int .i64 (getRes s p).2.1, errV (getRes s p).2.2]) ∧ Below w.heap.size w w' := by
  obtain ⟨R, HR⟩ : ∃ R, Hid (getRes s p = R) := ⟨_, rfl⟩
  rw [HR.out]
  go_enter Tryz.func177, Tryz.ntmps177
  go_wp2
  refine wp_scope_multi (readJ s R w) readM ?_ ?_
  · by_cases hp : p < 0
    · have HP := Lib.hid (res_neg HR.out hp)
      go_wp2
      go_step3
      change readJ s R w 0 _ _
      refine ⟨1, ?_⟩
      (repeat apply Exists.intro)
      exact ⟨rfl, rfl, HP.out, by decide⟩
    · obtain ⟨q, rfl⟩ := Int.eq_ofNat_of_zero_le (show 0 ≤ p by omega)
      clear hp
      by_cases hq : s.size ≤ q
      · have HP := Lib.hid (res_far HR.out hq)
        go_wp2
        go_step3
        go_wp2
        go_step3
        change readJ s R w 0 _ _
        refine ⟨4, ?_⟩
        (repeat apply Exists.intro)
        exact ⟨rfl, rfl, HP.out, by decide⟩
      · have hlt : q < s.size := by omega
        by_cases hb : s[q].toNat < 128
        · have HP := Lib.hid (res_one HR.out hlt hb)
          have h1 : (s[q].toNat : Int) < 128 := by omega
          have HO := Lib.hid (w_or0 s[q])
          have HM := Lib.hid (show s[q].toNat % 128 = s[q].toNat by omega)
          go_wp2
          go_step3
          go_wp2
          go_step3
          rw [HO.out]
          change readJ s R w 2 _ _
          refine ⟨q + 1, s[q].toNat % 128, s[q].toNat, 0, ?_⟩
          (repeat apply Exists.intro)
          exact ⟨rfl, rfl, hb, (by have := HM.out; omega : s[q].toNat % 128 < 18446744073709551616), by rw [HP.out, HM.out]; exact (if_neg (by simp)).symm, hlt, by omega⟩
        · have HP := Lib.hid (res_more HR.out hlt hb)
          have h1 : 128 ≤ (s[q].toNat : Int) := by omega
          have HO := Lib.hid (w_or0 s[q])
          go_wp2
          go_step3
          go_wp2
          go_step3
          rw [HO.out]
          change readJ s R w 1 _ _
          refine ⟨q + 1, s[q].toNat % 128, 7, 1, ?_⟩
          (repeat apply Exists.intro)
          exact ⟨rfl, rfl, by omega, rfl, ⟨by omega, HP.out⟩, hlt⟩
  · intro l a' w' hJ
    match l, hJ with
    | 0, hJ =>
      obtain ⟨c, u0, u1, u4, u5, u6, u7, u8, u9, u11, u12, u13, u14, u15, u16, u17, u18, u19, u20, u21, u22, u23, u24, u25, u26, u27, u28, u29, u30, u31, u32, u33, u34, u35, u36, u37, u38, u39, u40, u41, u42, u43, u44, u45, u46, u47, u48, u49, u50, u51, u52, u53, rfl, rfl, HC⟩ := hJ
      refine ⟨_, rfl, ?_⟩
      go_wp2
      go_region
      all_goals go_wp2
      all_goals go_ret3
      all_goals exact ⟨ret_err HC.out, by first | exact ((Below.refl _ _).alloc (Nat.le_refl _) _).drew | exact (Below.refl _ _).alloc (Nat.le_refl _) _⟩
    | 1, hJ =>
      obtain ⟨q, u, sh, i, u8, u11, u12, u13, u14, u15, u16, u17, u18, u19, u20, u21, u22, u23, u24, u25, u26, u27, u28, u29, u30, u31, u32, u33, u34, u35, u36, u37, u38, u39, u40, u41, u42, u43, u44, u45, u46, u47, u48, u49, u50, u51, u52, u53, rfl, rfl, hsh, HS, HU, hq⟩ := hJ
      refine ⟨_, rfl, ?_⟩
      by_cases hq' : s.size ≤ q
      · have HP := Lib.hid (more_far HS.out hsh HU.out.2 hq')
        go_wp2
        go_step3
        refine show readJ s R w 0 _ _ ∧ _ from ⟨⟨4, ?_⟩, ?_⟩
        · (repeat apply Exists.intro)
          exact ⟨rfl, rfl, HP.out, by decide⟩
        · simp [readM, intOf]; omega
      · have hlt : q < s.size := by omega
        clear hq'
        by_cases h63 : sh = 63
        · have HX := Lib.hid h63
          have hb63 : ((sh : Int) == 63) = true := by rw [h63]; rfl
          clear h63
          by_cases h1 : 1 < s[q].toNat
          · have h2 : 1 < (s[q].toNat : Int) := by omega
            have HP := Lib.hid (more_over HS.out HX.out HU.out.2 hlt h1)
            go_wp2
            go_step3
            refine show readJ s R w 0 _ _ ∧ _ from ⟨⟨3, ?_⟩, ?_⟩
            · (repeat apply Exists.intro)
              exact ⟨rfl, rfl, HP.out, by decide⟩
            · simp [readM, intOf]; omega
          · have h2 : (s[q].toNat : Int) ≤ 1 := by omega
            have HO := Lib.hid (w_orN s[q] HS.out hsh HU.out.1 (fun _ => by omega))
            have HP := Lib.hid (more_last HS.out hsh HU.out.2 hlt (by omega) (fun _ => h1))
            have HL := Lib.hid (sum_lt64 (c := s[q].toNat % 128) (show i ≤ 9 by have := HS.out; omega) HU.out.1 (by omega) (fun _ => by omega))
            go_wp2
            go_step3
            rw [HO.out]
            refine show readJ s R w 2 _ _ ∧ _ from ⟨⟨q + 1, u + s[q].toNat % 128 * 128 ^ i, s[q].toNat, sh, ?_⟩, ?_⟩
            · (repeat apply Exists.intro)
              exact ⟨rfl, rfl, by omega, HL.out, HP.out, hlt, hsh⟩
            · simp [readM, intOf]; omega
        · have hb63 : ((sh : Int) == 63) = false := by simpa using (show ¬ (sh : Int) = 63 by omega)
          have HX := Lib.hid h63
          clear h63
          by_cases h1 : s[q].toNat < 128
          · have h2 : (s[q].toNat : Int) < 128 := by omega
            have HO := Lib.hid (w_orN s[q] HS.out hsh HU.out.1 (fun h => absurd (by rw [HS.out, h]) HX.out))
            have HP := Lib.hid (more_last HS.out hsh HU.out.2 hlt h1 (fun h => absurd (by rw [HS.out, h]) HX.out))
            have HL := Lib.hid (sum_lt64 (c := s[q].toNat % 128) (show i ≤ 9 by have := HS.out; omega) HU.out.1 (by omega) (fun h => absurd (by rw [HS.out, h]) HX.out))
            go_wp2
            go_step3
            rw [HO.out]
            refine show readJ s R w 2 _ _ ∧ _ from ⟨⟨q + 1, u + s[q].toNat % 128 * 128 ^ i, s[q].toNat, sh, ?_⟩, ?_⟩
            · (repeat apply Exists.intro)
              exact ⟨rfl, rfl, h1, HL.out, HP.out, hlt, hsh⟩
            · simp [readM, intOf]; omega
          · have h2 : 128 ≤ (s[q].toNat : Int) := by omega
            have HO := Lib.hid (w_orN s[q] HS.out hsh HU.out.1 (fun h => absurd (by rw [HS.out, h]) HX.out))
            have HP := Lib.hid (more_on HS.out hsh HX.out HU.out.2 hlt h1)
            have HL := Lib.hid (sum_lt HU.out.1 (show s[q].toNat % 128 < 128 by omega))
            have HS2 := Lib.hid (show sh + 7 = 7 * (i + 1) by have := HS.out; omega)
            have HS3 := Lib.hid (show sh + 7 ≤ 63 by have := HS.out; have := HX.out; omega)
            go_wp2
            go_step3
            rw [HO.out]
            refine show readJ s R w 1 _ _ ∧ _ from ⟨⟨q + 1, u + s[q].toNat % 128 * 128 ^ i, sh + 7, i + 1, ?_⟩, ?_⟩
            · (repeat apply Exists.intro)
              exact ⟨rfl, rfl, HS3.out, HS2.out, ⟨HL.out, HP.out⟩, hlt⟩
            · have := HS3.out; simp [readM, intOf]; omega
    | 2, hJ =>
      obtain ⟨q, u, b, sh, u11, u12, u13, u14, u15, u16, u17, u18, u19, u20, u21, u22, u23, u24, u25, u26, u27, u28, u29, u30, u31, u32, u33, u34, u35, u36, u37, u38, u39, u40, u41, u42, u43, u44, u45, u46, u47, u48, u49, u50, u51, u52, u53, rfl, rfl, hb, HU, HR', hq, hsh⟩ := hJ
      refine ⟨_, rfl, ?_⟩
      by_cases h0 : b = 0
      · by_cases hz : sh = 0
        · have HP := Lib.hid (last_yes HR'.out (fun h => h.2 hz))
          have hbz : ((sh : Int) == 0) = true := by rw [hz]; rfl
          have hb0 : ¬ 0 < (b : Int) := by omega
          clear h0 hz HR'
          go_wp2_with (go_at_call 191; refine (signed_any u _ HU.out).mono ?_; rintro e w' ⟨rfl, rfl⟩)
          go_ret3
          exact ⟨ret_num HP.out, (Below.refl _ _).alloc (Nat.le_refl _) _⟩
        · have HP := Lib.hid (last_no HR'.out h0 hz)
          have hbz : ((sh : Int) == 0) = false := by simpa using hz
          have hb0 : ¬ 0 < (b : Int) := by omega
          clear h0 hz HR'
          go_wp2_with fail
          go_step3
          go_wp2
          go_region
          all_goals go_wp2
          all_goals go_ret3
          all_goals exact ⟨ret_err ⟨HP.out, by decide⟩, by first | exact ((Below.refl _ _).alloc (Nat.le_refl _) _).drew | exact (Below.refl _ _).alloc (Nat.le_refl _) _⟩
      · have HP := Lib.hid (last_yes HR'.out (fun h => h0 h.1))
        have hb0 : 0 < (b : Int) := by omega
        clear h0 HR'
        go_wp2_with (go_at_call 191; refine (signed_any u _ HU.out).mono ?_; rintro e w' ⟨rfl, rfl⟩)
        go_ret3
        exact ⟨ret_num HP.out, (Below.refl _ _).alloc (Nat.le_refl _) _⟩
    | n + 3, hJ => exact hJ.elim
end Go.Proofs.YtbpidhlpakobiaaGreatDoor
