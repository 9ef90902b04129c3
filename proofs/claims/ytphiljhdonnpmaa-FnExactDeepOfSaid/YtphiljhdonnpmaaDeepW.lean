/- Walks: impl.levelsOf, spec.l02Deep, spec.l01Max, impl.DeepOf, spec.DeepOf. -/
import Derived.Test.YtphiljhdonnpmaaPartA
namespace Go.Proofs.Ytphiljhdonnpmaa
open Go.RowKit

mutual
/-- How deep a shape is. -/
def Sh.deep : Sh → Nat
  | .mk _ _ _ su => Sh.deeps su + 1
def Sh.deeps : List Sh → Nat
  | [] => 0
  | x :: l => max (Sh.deep x) (Sh.deeps l)
end
theorem deeps_take (l : List Sh) (k : Nat) (h : k < l.length) : Sh.deeps (l.take (k + 1)) = max (Sh.deeps (l.take k)) l[k].deep := by
  induction l generalizing k with
  | nil => cases h
  | cons x l ih =>
    cases k with
    | zero => simp [Sh.deeps]
    | succ k => simp only [List.take_succ_cons, Sh.deeps, List.getElem_cons_succ]; rw [ih k (by simpa using h)]; omega
theorem deeps_take_le (l : List Sh) (k : Nat) : Sh.deeps (l.take k) ≤ Sh.deeps l := by
  induction l generalizing k with
  | nil => simp [Sh.deeps]
  | cons x l ih =>
    cases k with
    | zero => simp [Sh.deeps]
    | succ k => simp only [List.take_succ_cons, Sh.deeps]; have := ih k; omega
theorem deeps_le : ∀ (l : List Sh), (∀ x ∈ l, x.deep ≤ x.sz + 1) → Sh.deeps l ≤ Sh.szs l + l.length
  | [], _ => by simp [Sh.deeps]
  | x :: l, h => by
    have h1 := h x (by simp)
    have h2 := deeps_le l fun y hy => h y (by simp [hy])
    simp only [Sh.deeps, Sh.szs, List.length_cons]; omega
theorem deep_le : ∀ t : Sh, t.deep ≤ t.sz + 1 := by
  refine Sh.ind fun k sy na su ih => ?_
  have := deeps_le su ih
  simp only [Sh.deep, Sh.sz]; omega

set_option maxHeartbeats 400000 in
theorem specMax_any (a b : Nat) (w : World) :
    Calls Try.prog 26 #[.int .i64 a, .int .i64 b] w fun e w' => e = .returned (.int .i64 ((max a b : Nat) : Int)) ∧ w = w' := by
  by_cases h : b < a
  · have h1 : (b : Int) < a := by omega
    have HR := Lib.hid (show ((max a b : Nat) : Int) = a by omega)
    go_enter Try.func26, Try.ntmps26
    go_wp2_with fail
    go_ret
    exact ⟨ret_int HR.out.symm, rfl⟩
  · have h1 : (a : Int) ≤ b := by omega
    have HR := Lib.hid (show ((max a b : Nat) : Int) = b by omega)
    go_enter Try.func26, Try.ntmps26
    go_wp2_with fail
    go_ret
    exact ⟨ret_int HR.out.symm, rfl⟩

theorem mx_is (a b : Nat) : Value.int .i64 (if a < b then (b : Int) else a) = .int .i64 ((max a b : Nat) : Int) := by
  by_cases h : a < b
  · rw [if_pos h, show (b : Int) = ((max a b : Nat) : Int) by omega]
  · rw [if_neg h, show (a : Int) = ((max a b : Nat) : Int) by omega]
def LeAt (x : Sh) : Prop := ∀ (v : Value) (w : World), IsSh w x v → x.deep ≤ 1048577 →
  Calls Try.prog 21 #[v] w fun e w' => e = .returned (.int .i64 x.deep) ∧ Below w.heap.size w w'
def SdAt (x : Sh) : Prop := ∀ (v : Value) (w : World), IsSh w x v → x.deep ≤ 1048577 →
  Calls Try.prog 17 #[v] w fun e w' => e = .returned (.int .i64 x.deep) ∧ Below w.heap.size w w'

set_option maxHeartbeats 1000000 in
theorem levels_any : ∀ x, LeAt x := by
  refine Sh.ind fun k sy na su ih v w h hn => ?_
  obtain ⟨p1, m1, p2, m2, p3, m3, rfl, _, _, _, h3⟩ := h.open
  have IH := Lib.hid ih
  have HN := Lib.hid (show (Sh.mk k sy na su).deep = Sh.deeps su + 1 by simp only [Sh.deep])
  have hn' : Sh.deeps su + 1 ≤ 1048577 := by rw [HN.out] at hn; exact hn
  obtain ⟨a, cap, he, g3, g4, h6⟩ := h3
  simp only [Value.slice.injEq] at he
  obtain ⟨rfl, _, rfl⟩ := he
  have H6 := Lib.hid h6
  have HB := Lib.hid (below_alloc w)
  have hlen : su.length ≤ 9223372036854775807 := by omega
  clear h hn ih h6
  go_enter Try.func21, Try.ntmps21
  go_wp2_with fail
  go_loopw [3, 9] (fun c i wr => ∃ j q : Nat, j ≤ su.length ∧ i = .int .i64 j ∧ c = .int .i64 q ∧ q ≤ 1048576 ∧ Hid (q = Sh.deeps (su.take j)) ∧ Hid (Below w.heap.size w wr)) (fun _ i _ => su.length - (intOf i).toNat)
  case atStart => exact ⟨0, 0, Nat.zero_le _, rfl, rfl, by omega, by show _ = _; simp [Sh.deeps], HB.out _⟩
  case round =>
    obtain ⟨j, q, hj, rfl, rfl, hq, HQ, HBr⟩ := hrel
    by_cases hlt : j < su.length
    · obtain ⟨b, off, rfl, c0, c1, c2, c3, g0, g1, g2, g3, g4⟩ := IsShs.at H6.out hlt
      have HKp := Lib.hid (Keeps.of_below HBr.out)
      have k0 := HKp.out _ _ _ g0
      have k1 := HKp.out _ _ _ g1
      have k2 := HKp.out _ _ _ g2
      have k3 := HKp.out _ _ _ g3
      have K4 := Lib.hid (IsSh.keep HKp.out _ _ g4)
      obtain ⟨q1, i1, j1, q2, i2, j2, q3, i3, j3, rfl, rfl, rfl, rfl⟩ := g4.cells
      have HA := Lib.hid (HBr.out.alloc HBr.out.size)
      have HT := Lib.hid (deeps_take su j hlt)
      have hle := deeps_take_le su (j + 1)
      have hx : max q su[j].deep ≤ 1048576 := by have := HQ.out; have := HT.out; omega
      have hx1 : su[j].deep ≤ 1048577 := by omega
      have hmx : 0 ≤ ((max q su[j].deep : Nat) : Int) := by omega
      clear g0 g1 g2 g3 g4 hle
      go_wp2_with fail
      refine (IH.out su[j] (List.getElem_mem hlt) _ _ (IsSh.keep (keeps_alloc _ _) _ _ K4.out) hx1).mono ?_
      rintro e w3 ⟨rfl, hb3⟩
      have HB3 := Lib.hid ((HA.out _).trans (hb3.mono (HA.out _).size))
      clear hb3
      go_wp2_with fail
      go_roundw
      case rel => exact ⟨j + 1, max q su[j].deep, hlt, by go_num, mx_is _ _, hx, by show _ = _; rw [HT.out, HQ.out], HB3.out⟩
      case measure => simp [intOf]; omega
    · obtain rfl : j = su.length := by omega
      go_wp2_with fail
      go_ret
      exact ⟨ret_int (by rw [HN.out]; have := HQ.out; rw [List.take_length] at this; omega), HBr.out⟩

set_option maxHeartbeats 1000000 in
theorem specDeep_any : ∀ x, SdAt x := by
  refine Sh.ind fun k sy na su ih v w h hn => ?_
  obtain ⟨p1, m1, p2, m2, p3, m3, rfl, _, _, _, h3⟩ := h.open
  have IH := Lib.hid ih
  have HN := Lib.hid (show (Sh.mk k sy na su).deep = Sh.deeps su + 1 by simp only [Sh.deep])
  have hn' : Sh.deeps su + 1 ≤ 1048577 := by rw [HN.out] at hn; exact hn
  obtain ⟨a, cap, he, g3, g4, h6⟩ := h3
  simp only [Value.slice.injEq] at he
  obtain ⟨rfl, _, rfl⟩ := he
  have H6 := Lib.hid h6
  have HB := Lib.hid (below_alloc w)
  have HA0 := Lib.hid (Go.Deep.blk_alloc_new w (.cells #[.int .i64 k, .slice p1 sy.length m1, .slice p2 na.length m2, .slice p3 su.length m3] 31))
  have hlen : su.length ≤ 9223372036854775807 := by omega
  clear h hn ih h6
  go_enter Try.func17, Try.ntmps17
  go_wp2_with fail
  go_loopw [3, 4] (fun c i wr => ∃ j q : Nat, j ≤ su.length ∧ i = .int .i64 j ∧ c = .int .i64 q ∧ q ≤ 1048576 ∧ Hid (q = Sh.deeps (su.take j)) ∧ Hid (Below w.heap.size w wr) ∧ Hid (wr.heap[w.heap.size]? = some (.cells #[.int .i64 k, .slice p1 sy.length m1, .slice p2 na.length m2, .slice p3 su.length m3] 31 (0, 0)))) (fun _ i _ => su.length - (intOf i).toNat)
  case atStart => exact ⟨0, 0, Nat.zero_le _, rfl, rfl, by omega, by show _ = _; simp [Sh.deeps], HB.out _, HA0.out⟩
  case round =>
    obtain ⟨j, q, hj, rfl, rfl, hq, HQ, HBr, HA⟩ := hrel
    obtain ⟨b0, b1, b2, b3, _, _, _, _, bz⟩ := blk4 HA.out
    by_cases hlt : j < su.length
    · obtain ⟨b, off, rfl, c0, c1, c2, c3, g0, g1, g2, g3, g4⟩ := IsShs.at H6.out hlt
      have HKp := Lib.hid (Keeps.of_below HBr.out)
      have k0 := HKp.out _ _ _ g0
      have k1 := HKp.out _ _ _ g1
      have k2 := HKp.out _ _ _ g2
      have k3 := HKp.out _ _ _ g3
      have K4 := Lib.hid (IsSh.keep HKp.out _ _ g4)
      have HT := Lib.hid (deeps_take su j hlt)
      have hle := deeps_take_le su (j + 1)
      have hx : max q su[j].deep ≤ 1048576 := by have := HQ.out; have := HT.out; omega
      have hx1 : su[j].deep ≤ 1048577 := by omega
      have hmx : 0 ≤ ((max q su[j].deep : Nat) : Int) := by omega
      clear g0 g1 g2 g3 g4 hle
      go_wp2_with fail
      refine (IH.out su[j] (List.getElem_mem hlt) _ _ K4.out hx1).mono ?_
      rintro e w3 ⟨rfl, hb3⟩
      have HB3 := Lib.hid (HBr.out.trans (hb3.mono HBr.out.size))
      have HA3 := Lib.hid (blk_below HA.out hb3 bz)
      clear hb3 b0 b1 b2 b3 bz
      go_wp2_with fail
      refine (specMax_any _ _ _).mono ?_
      rintro e w4 ⟨rfl, rfl⟩
      go_wp2_with fail
      go_roundw
      case rel => exact ⟨j + 1, max q su[j].deep, hlt, by go_num, rfl, hx, by show _ = _; rw [HT.out, HQ.out], HB3.out, HA3.out⟩
      case measure => simp [intOf]; omega
    · obtain rfl : j = su.length := by omega
      go_wp2_with fail
      go_ret
      exact ⟨ret_int (by rw [HN.out]; have := HQ.out; rw [List.take_length] at this; omega), HBr.out⟩

/-- What DeepOf tells. -/
def deepOf (t : Sh) : Int := if rightB t = true then t.deep else 0

theorem implDeep_is (t : Sh) (r : Int) (hb : deepOf t = r) (hn : t.sz ≤ 1048576) (v : Value) (w : World) (h : IsSh w t v) :
    Calls Try.prog 10 #[v] w fun e w' => e = .returned (.int .i64 r) ∧ Below w.heap.size w w' := by
  subst hb
  have HH := Lib.hid h
  obtain ⟨p1, n1, m1, p2, n2, m2, p3, n3, m3, rfl⟩ := h.agg
  have HB := Lib.hid (below_alloc w)
  have HA0 := Lib.hid (Go.Deep.blk_alloc_new w (.cells #[.int .i64 t.kd, .slice p1 n1 m1, .slice p2 n2 m2, .slice p3 n3 m3] 31))
  have HL := Lib.hid (deep_le t)
  cases hr : rightB t
  · have HR := Lib.hid hr
    have HP : Hid (deepOf t = 0) := by show _ = _; unfold deepOf; rw [hr]; rfl
    clear h hr
    go_enter Try.func10, Try.ntmps10
    go_wp2_with fail
    refine (implRight_is t _ HR.out _ _ (IsSh.keep (keeps_alloc _ _) _ _ HH.out)).mono ?_
    rintro e w1 ⟨rfl, hb1⟩
    have HB1 := Lib.hid ((HB.out _).trans (hb1.mono (by simp)))
    clear hb1
    go_wp2_with fail
    go_ret
    exact ⟨ret_int HP.out.symm, HB1.out⟩
  · have HR := Lib.hid hr
    have HP : Hid (deepOf t = t.deep) := by show _ = _; unfold deepOf; rw [hr]; rfl
    clear h hr
    go_enter Try.func10, Try.ntmps10
    go_wp2_with fail
    refine (implRight_is t _ HR.out _ _ (IsSh.keep (keeps_alloc _ _) _ _ HH.out)).mono ?_
    rintro e w1 ⟨rfl, hb1⟩
    have A1 := Lib.hid (blk_below HA0.out hb1 (by simp))
    have HB1 := Lib.hid ((HB.out _).trans (hb1.mono (by simp)))
    clear hb1
    obtain ⟨a0, a1, a2, a3, _, _, _, _, az⟩ := blk4 A1.out
    go_wp2_with fail
    refine (levels_any t _ _ (IsSh.keep (Keeps.of_below HB1.out) _ _ HH.out) (by have := HL.out; omega)).mono ?_
    rintro e w2 ⟨rfl, hb2⟩
    have HB2 := Lib.hid (HB1.out.trans (hb2.mono HB1.out.size))
    clear hb2 a0 a1 a2 a3 az
    go_wp2_with fail
    go_ret
    exact ⟨ret_int HP.out.symm, HB2.out⟩

theorem specDeepOf_is (t : Sh) (r : Int) (hb : deepOf t = r) (hn : t.sz ≤ 1048576) (v : Value) (w : World) (h : IsSh w t v) :
    Calls Try.prog 8 #[v] w fun e w' => e = .returned (.int .i64 r) ∧ Below w.heap.size w w' := by
  subst hb
  have HH := Lib.hid h
  obtain ⟨p1, n1, m1, p2, n2, m2, p3, n3, m3, rfl⟩ := h.agg
  have HB := Lib.hid (below_alloc w)
  have HA0 := Lib.hid (Go.Deep.blk_alloc_new w (.cells #[.int .i64 t.kd, .slice p1 n1 m1, .slice p2 n2 m2, .slice p3 n3 m3] 31))
  have HL := Lib.hid (deep_le t)
  cases hr : rightB t
  · have HR := Lib.hid hr
    have HP : Hid (deepOf t = 0) := by show _ = _; unfold deepOf; rw [hr]; rfl
    clear h hr
    go_enter Try.func8, Try.ntmps8
    go_wp2_with fail
    refine (specRight_is t _ HR.out _ _ (IsSh.keep (keeps_alloc _ _) _ _ HH.out)).mono ?_
    rintro e w1 ⟨rfl, hb1⟩
    have HB1 := Lib.hid ((HB.out _).trans (hb1.mono (by simp)))
    clear hb1
    go_wp2_with fail
    go_ret
    exact ⟨ret_int HP.out.symm, HB1.out⟩
  · have HR := Lib.hid hr
    have HP : Hid (deepOf t = t.deep) := by show _ = _; unfold deepOf; rw [hr]; rfl
    clear h hr
    go_enter Try.func8, Try.ntmps8
    go_wp2_with fail
    refine (specRight_is t _ HR.out _ _ (IsSh.keep (keeps_alloc _ _) _ _ HH.out)).mono ?_
    rintro e w1 ⟨rfl, hb1⟩
    have A1 := Lib.hid (blk_below HA0.out hb1 (by simp))
    have HB1 := Lib.hid ((HB.out _).trans (hb1.mono (by simp)))
    clear hb1
    obtain ⟨a0, a1, a2, a3, _, _, _, _, az⟩ := blk4 A1.out
    go_wp2_with fail
    refine (specDeep_any t _ _ (IsSh.keep (Keeps.of_below HB1.out) _ _ HH.out) (by have := HL.out; omega)).mono ?_
    rintro e w2 ⟨rfl, hb2⟩
    have HB2 := Lib.hid (HB1.out.trans (hb2.mono HB1.out.size))
    clear hb2 a0 a1 a2 a3 az
    go_wp2_with fail
    go_ret
    exact ⟨ret_int HP.out.symm, HB2.out⟩
end Go.Proofs.Ytphiljhdonnpmaa
