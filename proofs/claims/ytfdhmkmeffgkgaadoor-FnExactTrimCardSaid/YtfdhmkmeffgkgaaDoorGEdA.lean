/- Walks: what is right by a Kind: impl.atRightIf, wordRightIf, shapeRightIf; spec.l07Takes, l07Has, l07Zero, l02Is. · Walk: impl.EditRight. -/
import Derived.Test.YtfdhmkmeffgkgaaDoorGEdP
import Derived.Test.YtfdhmkmeffgkgaaDoorGKindA
namespace Go.Proofs.YtfdhmkmeffgkgaaDoor
open Go.RowKit

theorem plIf_is (h : Bool) (n : Int) (w : World) :
    Calls Tryd.prog 56 #[.bool h, .int .i64 n] w fun e w' => e = .returned (.bool (plIf h n)) ∧ w = w' := by
  cases h
  · go_enter Tryd.func56, Tryd.ntmps56
    go_wp2_with fail
    go_ret
    exact ⟨rfl, rfl⟩
  · by_cases h1 : 0 ≤ n
    · by_cases h2 : n < 6
      · have HR : Hid (plIf true n = true) := by show _ = _; simp [plIf, h1, h2]
        go_enter Tryd.func56, Tryd.ntmps56
        go_wp2_with fail
        go_ret
        exact ⟨ret_bool HR.out.symm, rfl⟩
      · have HR : Hid (plIf true n = false) := by show _ = _; simp [plIf, h2]
        have h3 : decide (n < 6) = false := by simpa using h2
        go_enter Tryd.func56, Tryd.ntmps56
        go_wp2_with fail
        go_ret
        exact ⟨ret_bool HR.out.symm, rfl⟩
    · have HR : Hid (plIf true n = false) := by show _ = _; simp [plIf, h1]
      have h3 : decide (0 ≤ n) = false := by simpa using h1
      go_enter Tryd.func56, Tryd.ntmps56
      go_wp2_with fail
      go_ret
      exact ⟨ret_bool HR.out.symm, rfl⟩

theorem size0 {s : ByteArray} : s.size = 0 ↔ s = ⟨#[]⟩ := by
  constructor
  · intro h
    have h0 : s = ByteArray.empty := by simpa using h
    exact h0
  · rintro rfl; rfl

theorem toList_full {s : ByteArray} (h : ¬ s = ⟨#[]⟩) : s.toList.isEmpty = false := by
  cases e : s.toList with
  | nil => exact absurd (ba_list.1 (e.trans (by rw [ByteArray.toList_eq] : ([] : List UInt8) = (⟨#[]⟩ : ByteArray).toList))) h
  | cons a l => rfl

theorem nmIf_is (h : Bool) (s : ByteArray) (w : World) (hs : s.size ≤ 9223372036854775807) :
    Calls Tryd.prog 57 #[.bool h, .string s] w fun e w' => e = .returned (.bool (nmIf h s)) ∧ w = w' := by
  cases h
  · by_cases h1 : s = ⟨#[]⟩
    · subst h1
      go_enter Tryd.func57, Tryd.ntmps57
      go_wp2_with fail
      go_ret
      exact ⟨rfl, rfl⟩
    · have HR : Hid (nmIf false s = false) := by show _ = _; exact decide_eq_false fun h => h1 (size0.1 h)
      have h2 := toList_full h1
      clear h1
      go_enter Tryd.func57, Tryd.ntmps57
      go_wp2_with fail
      go_ret
      exact ⟨ret_bool HR.out.symm, rfl⟩
  · obtain ⟨b, hb⟩ : ∃ b, wordOk s.data.toList = b := ⟨_, rfl⟩
    have HB := Lib.hid hb
    clear hb
    go_enter Tryd.func57, Tryd.ntmps57
    go_wp2_with fail
    refine (implWord_is s b HB.out _ (by unfold maxLen; omega)).mono ?_
    rintro e w' ⟨rfl, rfl⟩
    go_wp2_with fail
    go_ret
    exact ⟨ret_bool HB.out.symm, rfl⟩

theorem Sh.lens {w : World} {t : Sh} {v : Value} (h : IsSh w t v) : ∃ p1 m1 p2 m2 p3 m3, v = .agg #[.int .i64 t.kd, .slice p1 t.sy.length m1, .slice p2 t.na.length m2, .slice p3 t.su.length m3] := by
  cases t with | mk k sy na su =>
  obtain ⟨_, _, _, _, _, _, rfl, _⟩ := h.open
  exact ⟨_, _, _, _, _, _, rfl⟩

theorem shIf_is (h : Bool) (t : Sh) (b : Bool) (hb : shIf h t = b) (v : Value) (w : World) (g : IsSh w t v) :
    Calls Tryd.prog 58 #[.bool h, v] w fun e w' => e = .returned (.bool b) ∧ Below w.heap.size w w' := by
  obtain ⟨p1, m1, p2, m2, p3, m3, rfl⟩ := Sh.lens g
  obtain ⟨W, hW⟩ : ∃ W, W = w.alloc (.cells #[.int .i64 t.kd, .slice p1 t.sy.length m1, .slice p2 t.na.length m2, .slice p3 t.su.length m3] 31) := ⟨_, rfl⟩
  have hba := below_alloc w (.cells #[.int .i64 t.kd, .slice p1 t.sy.length m1, .slice p2 t.na.length m2, .slice p3 t.su.length m3] 31)
  have hx := Go.Deep.blk_alloc_new w (.cells #[.int .i64 t.kd, .slice p1 t.sy.length m1, .slice p2 t.na.length m2, .slice p3 t.su.length m3] 31)
  rw [← hW] at hba hx
  have HB := Lib.hid hba
  have HW := Lib.hid hW
  have HX := Lib.hid hx
  have HG := Lib.hid (IsSh.keep (Keeps.of_below hba) _ _ g)
  clear hba hW hx g
  obtain ⟨a0, a1, a2, a3, _, _, _, _, _⟩ := blk4 HX.out
  cases h
  · by_cases hk : t.kd = 0
    · have hk' : (t.kd == 0) = true := by simpa using hk
      have HR : Hid ((decide (t.sy.length = 0) && (decide (t.na.length = 0) && decide (t.su.length = 0))) = b) := by
        show _ = _; rw [← hb]; simp only [shIf, shNone, hk]; simp [Bool.and_assoc]
      clear hb hk
      go_enter Tryd.func58, Tryd.ntmps58
      go_wp2_with fail
      refine (isBare_any _ _ _ _ _ _ _ _ _ _ _).mono ?_
      rintro e w1 ⟨rfl, hb1⟩
      rw [HR.out]
      rw [← HW.out] at hb1
      have B1 := Lib.hid (HB.out.trans (hb1.mono HB.out.size))
      clear hb1
      go_wp2_with fail
      go_ret
      exact ⟨rfl, B1.out⟩
    · have hk' : (t.kd == 0) = false := by simpa using hk
      have HR : Hid (b = false) := by show _ = _; rw [← hb]; simp [shIf, shNone, hk]
      clear hb hk
      go_enter Tryd.func58, Tryd.ntmps58
      go_wp2_with fail
      rw [← HW.out]
      go_ret
      exact ⟨ret_bool HR.out.symm, HB.out⟩
  · have HR : Hid (rightB t = b) := by show _ = _; rw [← hb]; rfl
    clear hb
    go_enter Tryd.func58, Tryd.ntmps58
    go_wp2_with fail
    rw [← HW.out]
    refine (implRight_is t b HR.out _ _ HG.out).mono ?_
    rintro e w1 ⟨rfl, hb1⟩
    have B1 := Lib.hid (HB.out.trans (hb1.mono HB.out.size))
    clear hb1
    go_wp2_with fail
    go_ret
    exact ⟨rfl, B1.out⟩

/-- The letters of a Kind. -/
def takesB (k : Int) : ByteArray :=
  if k = 1 then ⟨#[97, 110, 115]⟩ else if k = 2 then ⟨#[97, 110, 115]⟩ else if k = 3 then ⟨#[110, 116]⟩ else if k = 4 then ⟨#[97, 110]⟩ else if k = 5 then ⟨#[97, 110]⟩ else if k = 10 then ⟨#[115, 119]⟩ else ⟨#[]⟩
theorem takes_is (k : Int) (w : World) :
    Calls Tryd.prog 46 #[.int .i64 k] w fun e w' => e = .returned (.string (takesB k)) ∧ w = w' := by
  by_cases h1 : k = 1
  · subst h1
    go_enter Tryd.func46, Tryd.ntmps46
    go_wp2_with fail
    go_ret
    exact ⟨rfl, rfl⟩
  by_cases h2 : k = 2
  · subst h2
    go_enter Tryd.func46, Tryd.ntmps46
    go_wp2_with fail
    go_ret
    exact ⟨rfl, rfl⟩
  by_cases h3 : k = 3
  · subst h3
    go_enter Tryd.func46, Tryd.ntmps46
    go_wp2_with fail
    go_ret
    exact ⟨rfl, rfl⟩
  by_cases h4 : k = 4
  · subst h4
    go_enter Tryd.func46, Tryd.ntmps46
    go_wp2_with fail
    go_ret
    exact ⟨rfl, rfl⟩
  by_cases h5 : k = 5
  · subst h5
    go_enter Tryd.func46, Tryd.ntmps46
    go_wp2_with fail
    go_ret
    exact ⟨rfl, rfl⟩
  by_cases h6 : k = 10
  · subst h6
    go_enter Tryd.func46, Tryd.ntmps46
    go_wp2_with fail
    go_ret
    exact ⟨rfl, rfl⟩
  · have HR : Hid (takesB k = ⟨#[]⟩) := by show _ = _; simp only [takesB, h1, h2, h3, h4, h5, h6, if_false]
    have g1 : (k == 1) = false := by simpa using h1
    have g2 : (k == 2) = false := by simpa using h2
    have g3 : (k == 3) = false := by simpa using h3
    have g4 : (k == 4) = false := by simpa using h4
    have g5 : (k == 5) = false := by simpa using h5
    have g6 : (k == 10) = false := by simpa using h6
    rw [HR.out]
    clear h1 h2 h3 h4 h5 h6
    go_enter Tryd.func46, Tryd.ntmps46
    go_wp2_with fail
    go_ret
    exact ⟨rfl, rfl⟩

def letB (s : ByteArray) (c : UInt8) : Bool := s.data.toList.any (· == c)
theorem letB_no {s : ByteArray} {c : UInt8} {k : Nat} (h : s.size ≤ k) (hk : (s.data.toList.take k).any (· == c) = false) : letB s c = false := by
  unfold letB; rw [List.take_of_length_le (by rw [len_list]; exact h)] at hk; exact hk
theorem letB_yes {s : ByteArray} {c : UInt8} {k : Nat} (h : k < s.size) (hk : s[k] = c) : letB s c = true := by
  unfold letB
  refine List.any_eq_true.2 ⟨s[k], ?_, by simp [hk]⟩
  exact Array.mem_toList_iff.2 (Array.getElem_mem (xs := s.data) h)
theorem letB_snoc {s : ByteArray} {c : UInt8} {k : Nat} (h : k < s.size) (hk : (s.data.toList.take k).any (· == c) = false) (hn : ¬ s[k] = c) : (s.data.toList.take (k + 1)).any (· == c) = false := by
  have hl : k < s.data.toList.length := by rw [len_list]; exact h
  rw [List.take_succ_eq_append_getElem hl, List.any_append, hk]
  have : s.data.toList[k] = s[k] := by simp; rfl
  simp [this, hn]
set_option maxHeartbeats 400000 in
theorem has_is (s : ByteArray) (c : UInt8) (b : Bool) (hb : letB s c = b) (w : World) (hs : s.size ≤ maxLen) :
    Calls Tryd.prog 49 #[.string s, .int .u8 c.toNat] w fun e w' => e = .returned (.bool b) ∧ w = w' := by
  unfold maxLen at hs
  have HB := Lib.hid hb
  clear hb
  go_enter Tryd.func49, Tryd.ntmps49
  go_wp2
  go_loop [5] (fun i => ∃ k : Nat, k ≤ s.size ∧ i = .int .i64 k ∧ Hid ((s.data.toList.take k).any (· == c) = false)) (fun i => s.size - (intOf i).toNat)
  case atStart => exact ⟨0, Nat.zero_le _, rfl, rfl⟩
  case round =>
    obtain ⟨k, hk, rfl, HK⟩ := hrel
    by_cases hlt : k < s.size
    · by_cases h2 : s[k] = c
      · have HN := Lib.hid (letB_yes hlt h2)
        have h3 : ((s[k].toNat : Int) == (c.toNat : Int)) = true := by simp [h2]
        clear h2
        go_wp2
        go_ret
        exact ⟨ret_bool (HN.out.symm.trans HB.out), rfl⟩
      · have HN := Lib.hid (letB_snoc hlt HK.out h2)
        have h3 : ((s[k].toNat : Int) == (c.toNat : Int)) = false := by
          rw [beq_eq_false_iff_ne]; intro e; exact h2 (UInt8.toNat_inj.1 (Int.ofNat_inj.1 e))
        clear h2
        go_wp2
        go_round
        case rel => exact ⟨k + 1, hlt, by go_num, HN.out⟩
        case measure => simp [intOf]; omega
    · have HN := Lib.hid (letB_no (by omega) HK.out)
      go_wp2
      go_ret
      exact ⟨ret_bool (HN.out.symm.trans HB.out), rfl⟩

theorem zero_is (t : Sh) (b : Bool) (hb : shNone t = b) (v : Value) (w : World) (g : IsSh w t v) :
    Calls Tryd.prog 52 #[v] w fun e w' => e = .returned (.bool b) ∧ Below w.heap.size w w' := by
  obtain ⟨p1, m1, p2, m2, p3, m3, rfl⟩ := Sh.lens g
  have HB := Lib.hid (below_alloc w)
  have HR := Lib.hid hb
  clear g hb
  go_enter Tryd.func52, Tryd.ntmps52
  go_wp2_with fail
  all_goals
    go_ret
    refine ⟨?_, HB.out _⟩
    rw [← HR.out]
    unfold shNone
    simp [*]
    try (rw [Bool.eq_iff_iff]; simp)
end Go.Proofs.YtfdhmkmeffgkgaaDoor
namespace Go.Proofs.YtfdhmkmeffgkgaaDoor
open Go.RowKit

/-- The words of the Kinds, what undoes them, what they change. -/
def edWord (k : Nat) : ByteArray :=
  match k with
  | 1 => ⟨#[97, 100, 100]⟩ | 2 => ⟨#[100, 114, 111, 112]⟩ | 3 => ⟨#[110, 97, 109, 101]⟩ | 4 => ⟨#[115, 121, 109]⟩ | 5 => ⟨#[117, 110, 115, 121, 109]⟩ | 6 => ⟨#[109, 97, 121, 98, 101]⟩
  | 7 => ⟨#[115, 117, 114, 101]⟩ | 8 => ⟨#[108, 105, 115, 116]⟩ | 9 => ⟨#[111, 110, 101]⟩ | 10 => ⟨#[115, 101, 116]⟩ | _ => ⟨#[]⟩
def edBackK (k : Nat) : Int :=
  match k with
  | 1 => 2 | 2 => 1 | 3 => 3 | 4 => 5 | 5 => 4 | 6 => 7 | 7 => 6 | 8 => 9 | 9 => 8 | 10 => 10 | _ => 0
def edOf (k : Nat) : Int :=
  match k with
  | 1 => 7 | 2 => 7 | 3 => 7 | 4 => 4 | 5 => 4 | 7 => 5 | 9 => 6 | _ => 0
/-- impl.editKinds stands in its block. -/
def EkAt (w : World) : Prop := ∀ k : Nat, k < 11 →
  w.cell? ⟨0, k * 8, none⟩ = some (.string (edWord k)) ∧ w.cell? ⟨0, k * 8 + 1, none⟩ = some (.int .i64 (edBackK k)) ∧
  w.cell? ⟨0, k * 8 + 2, none⟩ = some (.int .i64 (edOf k)) ∧ w.cell? ⟨0, k * 8 + 3, none⟩ = some (.bool (hasPl k)) ∧
  w.cell? ⟨0, k * 8 + 4, none⟩ = some (.bool (hasNm k)) ∧ w.cell? ⟨0, k * 8 + 5, none⟩ = some (.bool (hasTo k)) ∧
  w.cell? ⟨0, k * 8 + 6, none⟩ = some (.bool (hasSh k)) ∧ w.cell? ⟨0, k * 8 + 7, none⟩ = some (.bool (hasWs k))
theorem EkAt.keep {w w' : World} (h : EkAt w) (hk : Keeps w w') : EkAt w' := fun k hk' =>
  let ⟨h0, h1, h2, h3, h4, h5, h6, h7⟩ := h k hk'
  ⟨hk _ _ _ h0, hk _ _ _ h1, hk _ _ _ h2, hk _ _ _ h3, hk _ _ _ h4, hk _ _ _ h5, hk _ _ _ h6, hk _ _ _ h7⟩

set_option maxRecDepth 100000 in
set_option maxHeartbeats 2000000 in
theorem implEd_is (t : Ed) (r : Bool) (hr : edOk t = r) (v : Value) (w : World) (h : IsEd w t v) (hek : EkAt w) :
    Calls Tryd.prog 28 #[v] w fun e w' => e = .returned (.bool r) ∧ Below w.heap.size w w' := by
  obtain ⟨p0, m0, p1, n1, m1, p2, n2, m2, p3, n3, m3, q1, i1, j1, q2, i2, j2, q3, i3, j3, rfl, _, _, y3, y4, h5, h6, h7⟩ := h
  cases t with | mk kd path pl nm tn sh ws =>
  dsimp only at *
  obtain ⟨W, hW⟩ : ∃ W, W = w.alloc (.cells #[.int .i64 kd, .slice p0 path.length m0, .int .i64 pl, .string nm, .string tn, .int .i64 sh.kd, .slice p1 n1 m1, .slice p2 n2 m2, .slice p3 n3 m3, .int .i64 ws.kd, .slice q1 i1 j1, .slice q2 i2 j2, .slice q3 i3 j3] 33) := ⟨_, rfl⟩
  have hba := below_alloc w (.cells #[.int .i64 kd, .slice p0 path.length m0, .int .i64 pl, .string nm, .string tn, .int .i64 sh.kd, .slice p1 n1 m1, .slice p2 n2 m2, .slice p3 n3 m3, .int .i64 ws.kd, .slice q1 i1 j1, .slice q2 i2 j2, .slice q3 i3 j3] 33)
  have hx := Go.Deep.blk_alloc_new w (.cells #[.int .i64 kd, .slice p0 path.length m0, .int .i64 pl, .string nm, .string tn, .int .i64 sh.kd, .slice p1 n1 m1, .slice p2 n2 m2, .slice p3 n3 m3, .int .i64 ws.kd, .slice q1 i1 j1, .slice q2 i2 j2, .slice q3 i3 j3] 33)
  rw [← hW] at hba hx
  have B0 := Lib.hid hba
  have A0 := Lib.hid hx
  have HW := Lib.hid hW
  have H5 := Lib.hid (h5.keep (Keeps.of_below hba))
  have H6 := Lib.hid h6
  have H7 := Lib.hid h7
  have EK := Lib.hid (hek.keep (Keeps.of_below hba))
  have HR := Lib.hid hr
  have hws : W.heap.size = w.heap.size + 1 := by rw [hW]; simp
  have WS := Lib.hid hws
  clear hba hx hW h5 h6 h7 hek hr hws
  have a0 := cel A0.out 0 rfl
  by_cases g1 : kd < 1
  · have HE : Hid (r = false) := by show _ = _; rw [← HR.out]; simp [edOk]; intros; omega
    go_enter Tryd.func28, Tryd.ntmps28
    go_wp2_with fail
    rw [← HW.out]
    go_ret
    exact ⟨ret_bool HE.out.symm, B0.out⟩
  have g1' : 1 ≤ kd := by omega
  by_cases g2 : kd > 10
  · have HE : Hid (r = false) := by show _ = _; rw [← HR.out]; simp [edOk]; intros; omega
    go_enter Tryd.func28, Tryd.ntmps28
    go_wp2_with fail
    rw [← HW.out]
    go_ret
    exact ⟨ret_bool HE.out.symm, B0.out⟩
  have g2' : kd ≤ 10 := by omega
  obtain ⟨k, rfl⟩ : ∃ k : Nat, kd = (k : Int) := ⟨kd.toNat, by omega⟩
  have hk10 : k ≤ 10 := by omega
  obtain ⟨r0, hr0⟩ : ∃ r, pathOk path = r := ⟨_, rfl⟩
  obtain ⟨r1, hr1⟩ : ∃ r, plIf (hasPl k) pl = r := ⟨_, rfl⟩
  obtain ⟨r2, hr2⟩ : ∃ r, nmIf (hasNm k) nm = r := ⟨_, rfl⟩
  obtain ⟨r3, hr3⟩ : ∃ r, nmIf (hasTo k) tn = r := ⟨_, rfl⟩
  obtain ⟨r4, hr4⟩ : ∃ r, shIf (hasSh k) sh = r := ⟨_, rfl⟩
  obtain ⟨r5, hr5⟩ : ∃ r, shIf (hasWs k) ws = r := ⟨_, rfl⟩
  have HE : Hid (r = (r0 && r1 && r2 && r3 && r4 && r5)) := by show _ = _; rw [← HR.out, ← hr0, ← hr1, ← hr2, ← hr3, ← hr4, ← hr5]; simp only [edOk, decide_eq_true g1', decide_eq_true g2', Bool.true_and]
  have R0 := Lib.hid hr0
  have R1 := Lib.hid hr1
  have R2 := Lib.hid hr2
  have R3 := Lib.hid hr3
  have R4 := Lib.hid hr4
  have R5 := Lib.hid hr5
  obtain ⟨f0, hf0⟩ : ∃ f, f = hasPl k := ⟨_, rfl⟩
  obtain ⟨f1, hf1⟩ : ∃ f, f = hasNm k := ⟨_, rfl⟩
  obtain ⟨f2, hf2⟩ : ∃ f, f = hasTo k := ⟨_, rfl⟩
  obtain ⟨f3, hf3⟩ : ∃ f, f = hasSh k := ⟨_, rfl⟩
  obtain ⟨f4, hf4⟩ : ∃ f, f = hasWs k := ⟨_, rfl⟩
  have EK' := Lib.hid (EK.out k (by omega))
  rw [← hf0, ← hf1, ← hf2, ← hf3, ← hf4] at EK'
  rw [← hf0] at R1
  rw [← hf1] at R2
  rw [← hf2] at R3
  rw [← hf3] at R4
  rw [← hf4] at R5
  obtain ⟨e0, e1, e2, e3, e4, e5, e6, e7⟩ := EK'.out
  have a1 := cel A0.out 1 rfl
  have k0 : (0 : Int) ≤ (k : Int) := by omega
  have k11 : (k : Int) < 11 := by omega
  clear hr0 hr1 hr2 hr3 hr4 hr5 hf0 hf1 hf2 hf3 hf4 g1 g2
  go_enter Tryd.func28, Tryd.ntmps28
  go_wp2_with fail
  rw [← HW.out]
  refine (implPath_is _ _ r0 R0.out _ H5.out).mono ?_
  rintro e w' ⟨rfl, rfl⟩
  cases r0
  · go_wp2_with fail
    go_ret
    exact ⟨ret_bool (by rw [HE.out]; simp), B0.out⟩
  have a2 := cel A0.out 2 rfl
  have a3 := cel A0.out 3 rfl
  have az : w.heap.size < W.heap.size := by have := WS.out; omega
  go_wp2_with fail
  obtain ⟨V, hV⟩ : ∃ V, V = W.alloc (.cells #[.string (edWord k), .int .i64 (edBackK k), .int .i64 (edOf k), .bool f0, .bool f1, .bool f2, .bool f3, .bool f4] 72) := ⟨_, rfl⟩
  have hbv := below_alloc W (.cells #[.string (edWord k), .int .i64 (edBackK k), .int .i64 (edOf k), .bool f0, .bool f1, .bool f2, .bool f3, .bool f4] 72)
  have hc := Go.Deep.blk_alloc_new W (.cells #[.string (edWord k), .int .i64 (edBackK k), .int .i64 (edOf k), .bool f0, .bool f1, .bool f2, .bool f3, .bool f4] 72)
  rw [← hV] at hbv hc ⊢
  have B1 := Lib.hid (B0.out.trans (hbv.mono B0.out.size))
  have A1 := Lib.hid (blk_below A0.out hbv az)
  have C1 := Lib.hid hc
  clear hV hbv hc a0 a1 a2 a3 e0 e1 e2 e3 e4 e5 e6 e7
  refine (plIf_is f0 pl _).mono ?_
  rintro e w' ⟨rfl, rfl⟩
  rw [R1.out]
  have a3 := cel A1.out 3 rfl
  have c4 := cel C1.out 4 rfl
  cases r1
  · go_wp2_with fail
    go_ret
    exact ⟨ret_bool (by rw [HE.out]; simp), B1.out⟩
  go_wp2_with fail
  refine (nmIf_is f1 nm _ y3).mono ?_
  rintro e w' ⟨rfl, rfl⟩
  rw [R2.out]
  have a4 := cel A1.out 4 rfl
  have c5 := cel C1.out 5 rfl
  cases r2
  · go_wp2_with fail
    go_ret
    exact ⟨ret_bool (by rw [HE.out]; simp), B1.out⟩
  go_wp2_with fail
  refine (nmIf_is f2 tn _ y4).mono ?_
  rintro e w' ⟨rfl, rfl⟩
  rw [R3.out]
  clear a3 a4 c4 c5
  have a5 := cel A1.out 5 rfl
  have a6 := cel A1.out 6 rfl
  have a7 := cel A1.out 7 rfl
  have a8 := cel A1.out 8 rfl
  have c6 := cel C1.out 6 rfl
  cases r3
  · go_wp2_with fail
    go_ret
    exact ⟨ret_bool (by rw [HE.out]; simp), B1.out⟩
  go_wp2_with fail
  refine (shIf_is f3 sh r4 R4.out _ _ (IsSh.keep (Keeps.of_below B1.out) _ _ H6.out)).mono ?_
  rintro e w1 ⟨rfl, hb1⟩
  have B2 := Lib.hid (B1.out.trans (hb1.mono B1.out.size))
  have A2 := Lib.hid (blk_below A1.out hb1 (Array.getElem?_eq_some_iff.1 A1.out).1)
  have C2 := Lib.hid (blk_below C1.out hb1 (Array.getElem?_eq_some_iff.1 C1.out).1)
  clear hb1 a5 a6 a7 a8 c6
  have a9 := cel A2.out 9 rfl
  have a10 := cel A2.out 10 rfl
  have a11 := cel A2.out 11 rfl
  have a12 := cel A2.out 12 rfl
  have c7 := cel C2.out 7 rfl
  cases r4
  · go_wp2_with fail
    go_ret
    exact ⟨ret_bool (by rw [HE.out]; simp), B2.out⟩
  go_wp2_with fail
  refine (shIf_is f4 ws r5 R5.out _ _ (IsSh.keep (Keeps.of_below B2.out) _ _ H7.out)).mono ?_
  rintro e w2 ⟨rfl, hb2⟩
  have B3 := Lib.hid (B2.out.trans (hb2.mono B2.out.size))
  clear hb2 a9 a10 a11 a12 c7
  go_wp2_with fail
  go_ret
  exact ⟨ret_bool (by rw [HE.out]; simp), B3.out⟩
end Go.Proofs.YtfdhmkmeffgkgaaDoor
