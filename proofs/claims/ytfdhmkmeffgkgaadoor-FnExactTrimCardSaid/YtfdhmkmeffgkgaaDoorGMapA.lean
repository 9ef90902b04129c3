/- Walks: slices.Equal, spec.l02Same, impl.fieldsSame, spec.ShapeSame. · Walks: impl.fieldsSame, spec.ShapeSame. · Walks: spec.ShapeSame. -/
import Derived.Test.YtfdhmkmeffgkgaaDoorGEqA
import Derived.Test.YtfdhmkmeffgkgaaDoorGWordsW
import Derived.Test.YtfdhmkmeffgkgaaDoorGRightW
import Derived.Test.YtfdhmkmeffgkgaaDoorGPartB
namespace Go.Proofs.YtfdhmkmeffgkgaaDoor
open Go.RowKit

mutual
/-- Are two shapes the same? -/
def shEq : Sh → Sh → Bool
  | .mk k sy na su, .mk k' sy' na' su' => decide (k = k' ∧ sy = sy' ∧ na = na' ∧ su.length = su'.length) && shsEq su su'
def shsEq : List Sh → List Sh → Bool
  | [], _ => true
  | x :: l, m => match m with | [] => true | y :: m => shEq x y && shsEq l m
end
theorem shsEq_zip : ∀ (l m : List Sh), shsEq l m = (l.zip m).all fun p => shEq p.1 p.2
  | [], _ => by simp [shsEq]
  | x :: l, [] => by simp [shsEq]
  | x :: l, y :: m => by simp [shsEq, shsEq_zip l m]
def fieldsEq (x y : Sh) : Bool := decide (x.kd = y.kd ∧ x.sy = y.sy ∧ x.na = y.na ∧ x.su.length = y.su.length)
theorem shEq_is (x y : Sh) : shEq x y = (fieldsEq x y && shsEq x.su y.su) := by
  cases x; cases y; rfl

theorem take_eq_succ {l m : List ByteArray} {k : Nat} (h : k < l.length) (h' : k < m.length) (e : l.take k = m.take k) (e1 : l[k] = m[k]) : l.take (k + 1) = m.take (k + 1) := by
  rw [List.take_succ_eq_append_getElem h, List.take_succ_eq_append_getElem h', e, e1]
theorem ne_at {l m : List ByteArray} {k : Nat} (h : k < l.length) (h' : k < m.length) (e : ¬ l[k] = m[k]) : ¬ l = m := by
  intro he; subst he; exact e rfl

set_option maxHeartbeats 1000000 in
theorem eqStrs_any (v u : Value) (l m : List ByteArray) (w : World) (h : IsStrs w v l) (g : IsStrs w u m) (b : Bool) (hb : decide (l = m) = b) :
    Calls Tryd.prog 77 #[v, u] w fun e w' => e = .returned (.bool b) ∧ Below w.heap.size w w' := by
  subst hb
  obtain ⟨h1, h2, a, cap, rfl, h3, h4, h6⟩ := h
  obtain ⟨_, _, a', cap', rfl, g3, g4, g6⟩ := g
  have H6 := Lib.hid h6
  have G6 := Lib.hid g6
  clear h6 g6 h2
  by_cases hlen : l.length = m.length
  · have hq0 : ((l.length : Int) != (m.length : Int)) = false := by simp [hlen]
    have HL := Lib.hid hlen
    clear hlen
    go_enter Tryd.func77, Tryd.ntmps77
    go_wp2_with fail
    go_loopw [13] (fun i wr => ∃ k : Nat, k ≤ l.length ∧ i = .int .i64 k ∧ Hid (l.take k = m.take k) ∧ Hid (Below w.heap.size w wr)) (fun i _ => l.length - (intOf i).toNat)
    case atStart => exact ⟨0, Nat.zero_le _, rfl, rfl, Below.refl _ _⟩
    case round =>
      obtain ⟨k, hk, rfl, HT, HB⟩ := hrel
      by_cases hlt : k < l.length
      · have hm : k < m.length := by have := HL.out; omega
        obtain ⟨b, off, rfl, hc⟩ := IsStrs.at H6.out hlt
        obtain ⟨b', off', rfl, hc'⟩ := IsStrs.at G6.out hm
        have g0 := Keeps.of_below HB.out _ _ _ hc
        have g1 := Keeps.of_below HB.out _ _ _ hc'
        clear hc hc'
        by_cases he : l[k] = m[k]
        · have HS := Lib.hid (take_eq_succ hlt hm HT.out he)
          rw [he] at g0
          clear he
          go_wp2_with fail
          go_quiet (fail)
          go_wp2_with fail
          go_roundw
          case rel => exact ⟨k + 1, hlt, by go_num, HS.out, below_drewN HB.out _⟩
          case measure => simp [intOf]; omega
        · have HS := Lib.hid (decide_eq_false (ne_at hlt hm he))
          have hq := ba_ne' he
          have hq2 := ba_ne he
          clear he
          go_wp2_with fail
          go_quiet (fail)
          go_wp2_with fail
          go_ret
          exact ⟨ret_bool HS.out.symm, below_drewN HB.out _⟩
      · obtain rfl : k = l.length := by omega
        have HS : Hid (decide (l = m) = true) := by
          show _ = _
          have := HT.out
          rw [List.take_of_length_le (Nat.le_refl _), List.take_of_length_le (by have := HL.out; omega)] at this
          exact decide_eq_true this
        go_wp2_with fail
        go_ret
        exact ⟨ret_bool HS.out.symm, HB.out⟩
  · have HS := Lib.hid (decide_eq_false (show ¬ l = m from fun e => hlen (by rw [e])))
    have hq : ((l.length : Int) != (m.length : Int)) = true := by simp; omega
    clear hlen
    go_enter Tryd.func77, Tryd.ntmps77
    go_wp2_with fail
    go_ret
    exact ⟨ret_bool HS.out.symm, Below.refl _ _⟩

set_option maxHeartbeats 1000000 in
theorem sameStrs_any (v u : Value) (l m : List ByteArray) (w : World) (h : IsStrs w v l) (g : IsStrs w u m) (b : Bool) (hb : decide (l = m) = b) :
    Calls Tryd.prog 61 #[v, u] w fun e w' => e = .returned (.bool b) ∧ Below w.heap.size w w' := by
  subst hb
  obtain ⟨h1, h2, a, cap, rfl, h3, h4, h6⟩ := h
  obtain ⟨_, _, a', cap', rfl, g3, g4, g6⟩ := g
  have H6 := Lib.hid h6
  have G6 := Lib.hid g6
  clear h6 g6 h2
  by_cases hlen : l.length = m.length
  · have hq0 : ((l.length : Int) != (m.length : Int)) = false := by simp [hlen]
    have HL := Lib.hid hlen
    clear hlen
    go_enter Tryd.func61, Tryd.ntmps61
    go_wp2_with fail
    go_loopw [5] (fun i wr => ∃ k : Nat, k ≤ l.length ∧ i = .int .i64 k ∧ Hid (l.take k = m.take k) ∧ Hid (Below w.heap.size w wr)) (fun i _ => l.length - (intOf i).toNat)
    case atStart => exact ⟨0, Nat.zero_le _, rfl, rfl, Below.refl _ _⟩
    case round =>
      obtain ⟨k, hk, rfl, HT, HB⟩ := hrel
      by_cases hlt : k < l.length
      · have hm : k < m.length := by have := HL.out; omega
        obtain ⟨b, off, rfl, hc⟩ := IsStrs.at H6.out hlt
        obtain ⟨b', off', rfl, hc'⟩ := IsStrs.at G6.out hm
        have g0 := Keeps.of_below HB.out _ _ _ hc
        have g1 := Keeps.of_below HB.out _ _ _ hc'
        clear hc hc'
        by_cases he : l[k] = m[k]
        · have HS := Lib.hid (take_eq_succ hlt hm HT.out he)
          rw [he] at g0
          clear he
          go_wp2_with fail
          go_quiet (fail)
          go_wp2_with fail
          go_roundw
          case rel => exact ⟨k + 1, hlt, by go_num, HS.out, below_drewN HB.out _⟩
          case measure => simp [intOf]; omega
        · have HS := Lib.hid (decide_eq_false (ne_at hlt hm he))
          have hq := ba_ne' he
          have hq2 := ba_ne he
          clear he
          go_wp2_with fail
          go_quiet (fail)
          go_wp2_with fail
          go_ret
          exact ⟨ret_bool HS.out.symm, below_drewN HB.out _⟩
      · obtain rfl : k = l.length := by omega
        have HS : Hid (decide (l = m) = true) := by
          show _ = _
          have := HT.out
          rw [List.take_of_length_le (Nat.le_refl _), List.take_of_length_le (by have := HL.out; omega)] at this
          exact decide_eq_true this
        go_wp2_with fail
        go_ret
        exact ⟨ret_bool HS.out.symm, HB.out⟩
  · have HS := Lib.hid (decide_eq_false (show ¬ l = m from fun e => hlen (by rw [e])))
    have hq : ((l.length : Int) != (m.length : Int)) = true := by simp; omega
    clear hlen
    go_enter Tryd.func61, Tryd.ntmps61
    go_wp2_with fail
    go_ret
    exact ⟨ret_bool HS.out.symm, Below.refl _ _⟩
end Go.Proofs.YtfdhmkmeffgkgaaDoor
namespace Go.Proofs.YtfdhmkmeffgkgaaDoor
open Go.RowKit


set_option maxRecDepth 100000 in
set_option maxHeartbeats 2000000 in
theorem fields_any (x y : Sh) (v u : Value) (w : World) (h : IsSh w x v) (g : IsSh w y u) :
    Calls Tryd.prog 82 #[v, u] w fun e w' => e = .returned (.bool (fieldsEq x y)) ∧ Below w.heap.size w w' := by
  cases x with | mk k sy na su =>
  cases y with | mk k' sy' na' su' =>
  obtain ⟨p1, m1, p2, m2, p3, m3, rfl, _, h1, h2, h3⟩ := h.open
  obtain ⟨q1, j1, q2, j2, q3, j3, rfl, _, g1, g2, g3⟩ := g.open
  have H1 := Lib.hid h1
  have H2 := Lib.hid h2
  have G1 := Lib.hid g1
  have G2 := Lib.hid g2
  have HB0 := Lib.hid ((below_alloc w (.cells #[.int .i64 k, .slice p1 sy.length m1, .slice p2 na.length m2, .slice p3 su.length m3] 31)).alloc (by simp) (.cells #[.int .i64 k', .slice q1 sy'.length j1, .slice q2 na'.length j2, .slice q3 su'.length j3] 31))
  obtain ⟨n0, n1⟩ := two_new w (.cells #[.int .i64 k, .slice p1 sy.length m1, .slice p2 na.length m2, .slice p3 su.length m3] 31) (.cells #[.int .i64 k', .slice q1 sy'.length j1, .slice q2 na'.length j2, .slice q3 su'.length j3] 31)
  have A0 := Lib.hid n0
  have B0 := Lib.hid n1
  clear h g h1 h2 h3 g1 g2 g3 n0 n1
  by_cases e1 : k = k'
  · have b1 : (k == k') = true := by simpa using e1
    by_cases e2 : sy = sy'
    · have E1 := Lib.hid (decide_eq_true e2)
      by_cases e3 : na = na'
      · have E2 := Lib.hid (decide_eq_true e3)
        by_cases e4 : su.length = su'.length
        · have b4 := int_eq e4
          have HR : Hid (fieldsEq (.mk k sy na su) (.mk k' sy' na' su') = true) := decide_eq_true ⟨e1, e2, e3, e4⟩
          clear e1 e2 e3 e4
          go_enter Tryd.func82, Tryd.ntmps82
          go_wp2_with fail
          refine (eqStrs_any _ _ sy sy' _ (H1.out.keep (Keeps.of_below HB0.out)) (G1.out.keep (Keeps.of_below HB0.out)) _ E1.out).mono ?_
          rintro e w1 ⟨rfl, hb1⟩
          have A1 := Lib.hid (blk_below A0.out hb1 (blk4 A0.out).2.2.2.2.2.2.2.2)
          have B1 := Lib.hid (blk_below B0.out hb1 (blk4 B0.out).2.2.2.2.2.2.2.2)
          have HB1 := Lib.hid (HB0.out.trans (hb1.mono HB0.out.size))
          clear hb1
          obtain ⟨a0, a1, a2, a3, _, _, _, _, az⟩ := blk4 A1.out
          obtain ⟨d0, d1, d2, d3, _, _, _, _, dz⟩ := blk4 B1.out
          go_wp2_with fail
          refine (eqStrs_any _ _ na na' _ (H2.out.keep (Keeps.of_below HB1.out)) (G2.out.keep (Keeps.of_below HB1.out)) _ E2.out).mono ?_
          rintro e w2 ⟨rfl, hb2⟩
          have A2 := Lib.hid (blk_below A1.out hb2 (blk4 A1.out).2.2.2.2.2.2.2.2)
          have B2 := Lib.hid (blk_below B1.out hb2 (blk4 B1.out).2.2.2.2.2.2.2.2)
          have HB2 := Lib.hid (HB1.out.trans (hb2.mono HB1.out.size))
          clear hb2 a0 a1 a2 a3 d0 d1 d2 d3 az dz
          obtain ⟨a0, a1, a2, a3, _, _, _, _, az⟩ := blk4 A2.out
          obtain ⟨d0, d1, d2, d3, _, _, _, _, dz⟩ := blk4 B2.out
          go_wp2_with fail
          go_ret
          exact ⟨ret_bool HR.out.symm, HB2.out⟩
        · have b4 := int_ne e4
          have HR : Hid (fieldsEq (.mk k sy na su) (.mk k' sy' na' su') = false) := decide_eq_false fun h => e4 h.2.2.2
          clear e1 e2 e3 e4
          go_enter Tryd.func82, Tryd.ntmps82
          go_wp2_with fail
          refine (eqStrs_any _ _ sy sy' _ (H1.out.keep (Keeps.of_below HB0.out)) (G1.out.keep (Keeps.of_below HB0.out)) _ E1.out).mono ?_
          rintro e w1 ⟨rfl, hb1⟩
          have A1 := Lib.hid (blk_below A0.out hb1 (blk4 A0.out).2.2.2.2.2.2.2.2)
          have B1 := Lib.hid (blk_below B0.out hb1 (blk4 B0.out).2.2.2.2.2.2.2.2)
          have HB1 := Lib.hid (HB0.out.trans (hb1.mono HB0.out.size))
          clear hb1
          obtain ⟨a0, a1, a2, a3, _, _, _, _, az⟩ := blk4 A1.out
          obtain ⟨d0, d1, d2, d3, _, _, _, _, dz⟩ := blk4 B1.out
          go_wp2_with fail
          refine (eqStrs_any _ _ na na' _ (H2.out.keep (Keeps.of_below HB1.out)) (G2.out.keep (Keeps.of_below HB1.out)) _ E2.out).mono ?_
          rintro e w2 ⟨rfl, hb2⟩
          have A2 := Lib.hid (blk_below A1.out hb2 (blk4 A1.out).2.2.2.2.2.2.2.2)
          have B2 := Lib.hid (blk_below B1.out hb2 (blk4 B1.out).2.2.2.2.2.2.2.2)
          have HB2 := Lib.hid (HB1.out.trans (hb2.mono HB1.out.size))
          clear hb2 a0 a1 a2 a3 d0 d1 d2 d3 az dz
          obtain ⟨a0, a1, a2, a3, _, _, _, _, az⟩ := blk4 A2.out
          obtain ⟨d0, d1, d2, d3, _, _, _, _, dz⟩ := blk4 B2.out
          go_wp2_with fail
          go_ret
          exact ⟨ret_bool HR.out.symm, HB2.out⟩
      · have E2 := Lib.hid (decide_eq_false e3)
        have HR : Hid (fieldsEq (.mk k sy na su) (.mk k' sy' na' su') = false) := decide_eq_false fun h => e3 h.2.2.1
        clear e1 e2 e3
        go_enter Tryd.func82, Tryd.ntmps82
        go_wp2_with fail
        refine (eqStrs_any _ _ sy sy' _ (H1.out.keep (Keeps.of_below HB0.out)) (G1.out.keep (Keeps.of_below HB0.out)) _ E1.out).mono ?_
        rintro e w1 ⟨rfl, hb1⟩
        have A1 := Lib.hid (blk_below A0.out hb1 (blk4 A0.out).2.2.2.2.2.2.2.2)
        have B1 := Lib.hid (blk_below B0.out hb1 (blk4 B0.out).2.2.2.2.2.2.2.2)
        have HB1 := Lib.hid (HB0.out.trans (hb1.mono HB0.out.size))
        clear hb1
        obtain ⟨a0, a1, a2, a3, _, _, _, _, az⟩ := blk4 A1.out
        obtain ⟨d0, d1, d2, d3, _, _, _, _, dz⟩ := blk4 B1.out
        go_wp2_with fail
        refine (eqStrs_any _ _ na na' _ (H2.out.keep (Keeps.of_below HB1.out)) (G2.out.keep (Keeps.of_below HB1.out)) _ E2.out).mono ?_
        rintro e w2 ⟨rfl, hb2⟩
        have A2 := Lib.hid (blk_below A1.out hb2 (blk4 A1.out).2.2.2.2.2.2.2.2)
        have B2 := Lib.hid (blk_below B1.out hb2 (blk4 B1.out).2.2.2.2.2.2.2.2)
        have HB2 := Lib.hid (HB1.out.trans (hb2.mono HB1.out.size))
        clear hb2 a0 a1 a2 a3 d0 d1 d2 d3 az dz
        obtain ⟨a0, a1, a2, a3, _, _, _, _, az⟩ := blk4 A2.out
        obtain ⟨d0, d1, d2, d3, _, _, _, _, dz⟩ := blk4 B2.out
        go_wp2_with fail
        go_ret
        exact ⟨ret_bool HR.out.symm, HB2.out⟩
    · have E1 := Lib.hid (decide_eq_false e2)
      have HR : Hid (fieldsEq (.mk k sy na su) (.mk k' sy' na' su') = false) := decide_eq_false fun h => e2 h.2.1
      clear e1 e2
      go_enter Tryd.func82, Tryd.ntmps82
      go_wp2_with fail
      refine (eqStrs_any _ _ sy sy' _ (H1.out.keep (Keeps.of_below HB0.out)) (G1.out.keep (Keeps.of_below HB0.out)) _ E1.out).mono ?_
      rintro e w1 ⟨rfl, hb1⟩
      have A1 := Lib.hid (blk_below A0.out hb1 (blk4 A0.out).2.2.2.2.2.2.2.2)
      have B1 := Lib.hid (blk_below B0.out hb1 (blk4 B0.out).2.2.2.2.2.2.2.2)
      have HB1 := Lib.hid (HB0.out.trans (hb1.mono HB0.out.size))
      clear hb1
      obtain ⟨a0, a1, a2, a3, _, _, _, _, az⟩ := blk4 A1.out
      obtain ⟨d0, d1, d2, d3, _, _, _, _, dz⟩ := blk4 B1.out
      go_wp2_with fail
      go_ret
      exact ⟨ret_bool HR.out.symm, HB1.out⟩
  · have b1 : (k == k') = false := by simpa using e1
    have HR : Hid (fieldsEq (.mk k sy na su) (.mk k' sy' na' su') = false) := decide_eq_false fun h => e1 h.1
    clear e1
    go_enter Tryd.func82, Tryd.ntmps82
    go_wp2_with fail
    go_ret
    exact ⟨ret_bool HR.out.symm, HB0.out⟩
end Go.Proofs.YtfdhmkmeffgkgaaDoor
namespace Go.Proofs.YtfdhmkmeffgkgaaDoor
open Go.RowKit

set_option maxRecDepth 100000 in
set_option maxHeartbeats 2000000 in
theorem specSame_no (x y : Sh) (v u : Value) (w : World) (h : IsSh w x v) (g : IsSh w y u) (hne : fieldsEq x y = false) :
    Calls Tryd.prog 62 #[v, u] w fun e w' => e = .returned (.bool false) ∧ Below w.heap.size w w' := by
  cases x with | mk k sy na su =>
  cases y with | mk k' sy' na' su' =>
  obtain ⟨p1, m1, p2, m2, p3, m3, rfl, _, h1, h2, h3⟩ := h.open
  obtain ⟨q1, j1, q2, j2, q3, j3, rfl, _, g1, g2, g3⟩ := g.open
  have H1 := Lib.hid h1
  have H2 := Lib.hid h2
  have G1 := Lib.hid g1
  have G2 := Lib.hid g2
  have HB0 := Lib.hid ((below_alloc w (.cells #[.int .i64 k, .slice p1 sy.length m1, .slice p2 na.length m2, .slice p3 su.length m3] 31)).alloc (by simp) (.cells #[.int .i64 k', .slice q1 sy'.length j1, .slice q2 na'.length j2, .slice q3 su'.length j3] 31))
  obtain ⟨n0, n1⟩ := two_new w (.cells #[.int .i64 k, .slice p1 sy.length m1, .slice p2 na.length m2, .slice p3 su.length m3] 31) (.cells #[.int .i64 k', .slice q1 sy'.length j1, .slice q2 na'.length j2, .slice q3 su'.length j3] 31)
  have A0 := Lib.hid n0
  have B0 := Lib.hid n1
  clear h g h1 h2 h3 g1 g2 g3 n0 n1
  by_cases e1 : k = k'
  · have b1 : (k != k') = false := by simpa using e1
    by_cases e2 : sy = sy'
    · have E1 := Lib.hid (decide_eq_true e2)
      by_cases e3 : na = na'
      · have E2 := Lib.hid (decide_eq_true e3)
        have e4 : ¬ su.length = su'.length := fun h => by rw [show fieldsEq (.mk k sy na su) (.mk k' sy' na' su') = true from decide_eq_true ⟨e1, e2, e3, h⟩] at hne; cases hne
        · have b4 := int_bne e4
          clear e1 e2 e3 e4 hne
          go_enter Tryd.func62, Tryd.ntmps62
          go_wp2_with fail
          refine (sameStrs_any _ _ sy sy' _ (H1.out.keep (Keeps.of_below HB0.out)) (G1.out.keep (Keeps.of_below HB0.out)) _ E1.out).mono ?_
          rintro e w1 ⟨rfl, hb1⟩
          have A1 := Lib.hid (blk_below A0.out hb1 (blk4 A0.out).2.2.2.2.2.2.2.2)
          have B1 := Lib.hid (blk_below B0.out hb1 (blk4 B0.out).2.2.2.2.2.2.2.2)
          have HB1 := Lib.hid (HB0.out.trans (hb1.mono HB0.out.size))
          clear hb1
          obtain ⟨a0, a1, a2, a3, _, _, _, _, az⟩ := blk4 A1.out
          obtain ⟨d0, d1, d2, d3, _, _, _, _, dz⟩ := blk4 B1.out
          go_wp2_with fail
          refine (sameStrs_any _ _ na na' _ (H2.out.keep (Keeps.of_below HB1.out)) (G2.out.keep (Keeps.of_below HB1.out)) _ E2.out).mono ?_
          rintro e w2 ⟨rfl, hb2⟩
          have A2 := Lib.hid (blk_below A1.out hb2 (blk4 A1.out).2.2.2.2.2.2.2.2)
          have B2 := Lib.hid (blk_below B1.out hb2 (blk4 B1.out).2.2.2.2.2.2.2.2)
          have HB2 := Lib.hid (HB1.out.trans (hb2.mono HB1.out.size))
          clear hb2 a0 a1 a2 a3 d0 d1 d2 d3 az dz
          obtain ⟨a0, a1, a2, a3, _, _, _, _, az⟩ := blk4 A2.out
          obtain ⟨d0, d1, d2, d3, _, _, _, _, dz⟩ := blk4 B2.out
          go_wp2_with fail
          go_ret
          exact ⟨rfl, HB2.out⟩
      · have E2 := Lib.hid (decide_eq_false e3)
        clear e1 e2 e3 hne
        go_enter Tryd.func62, Tryd.ntmps62
        go_wp2_with fail
        refine (sameStrs_any _ _ sy sy' _ (H1.out.keep (Keeps.of_below HB0.out)) (G1.out.keep (Keeps.of_below HB0.out)) _ E1.out).mono ?_
        rintro e w1 ⟨rfl, hb1⟩
        have A1 := Lib.hid (blk_below A0.out hb1 (blk4 A0.out).2.2.2.2.2.2.2.2)
        have B1 := Lib.hid (blk_below B0.out hb1 (blk4 B0.out).2.2.2.2.2.2.2.2)
        have HB1 := Lib.hid (HB0.out.trans (hb1.mono HB0.out.size))
        clear hb1
        obtain ⟨a0, a1, a2, a3, _, _, _, _, az⟩ := blk4 A1.out
        obtain ⟨d0, d1, d2, d3, _, _, _, _, dz⟩ := blk4 B1.out
        go_wp2_with fail
        refine (sameStrs_any _ _ na na' _ (H2.out.keep (Keeps.of_below HB1.out)) (G2.out.keep (Keeps.of_below HB1.out)) _ E2.out).mono ?_
        rintro e w2 ⟨rfl, hb2⟩
        have A2 := Lib.hid (blk_below A1.out hb2 (blk4 A1.out).2.2.2.2.2.2.2.2)
        have B2 := Lib.hid (blk_below B1.out hb2 (blk4 B1.out).2.2.2.2.2.2.2.2)
        have HB2 := Lib.hid (HB1.out.trans (hb2.mono HB1.out.size))
        clear hb2 a0 a1 a2 a3 d0 d1 d2 d3 az dz
        obtain ⟨a0, a1, a2, a3, _, _, _, _, az⟩ := blk4 A2.out
        obtain ⟨d0, d1, d2, d3, _, _, _, _, dz⟩ := blk4 B2.out
        go_wp2_with fail
        go_ret
        exact ⟨rfl, HB2.out⟩
    · have E1 := Lib.hid (decide_eq_false e2)
      clear e1 e2 hne
      go_enter Tryd.func62, Tryd.ntmps62
      go_wp2_with fail
      refine (sameStrs_any _ _ sy sy' _ (H1.out.keep (Keeps.of_below HB0.out)) (G1.out.keep (Keeps.of_below HB0.out)) _ E1.out).mono ?_
      rintro e w1 ⟨rfl, hb1⟩
      have A1 := Lib.hid (blk_below A0.out hb1 (blk4 A0.out).2.2.2.2.2.2.2.2)
      have B1 := Lib.hid (blk_below B0.out hb1 (blk4 B0.out).2.2.2.2.2.2.2.2)
      have HB1 := Lib.hid (HB0.out.trans (hb1.mono HB0.out.size))
      clear hb1
      obtain ⟨a0, a1, a2, a3, _, _, _, _, az⟩ := blk4 A1.out
      obtain ⟨d0, d1, d2, d3, _, _, _, _, dz⟩ := blk4 B1.out
      go_wp2_with fail
      go_ret
      exact ⟨rfl, HB1.out⟩
  · have b1 : (k != k') = true := by simpa using e1
    clear e1 hne
    go_enter Tryd.func62, Tryd.ntmps62
    go_wp2_with fail
    go_ret
    exact ⟨rfl, HB0.out⟩

def SsAt (x : Sh) : Prop := ∀ (y : Sh) (v u : Value) (w : World), IsSh w x v → IsSh w y u →
  Calls Tryd.prog 62 #[v, u] w fun e w' => e = .returned (.bool (shEq x y)) ∧ Below w.heap.size w w'

theorem zip_take_succ {l m : List Sh} {k : Nat} (h : k < l.length) (h' : k < m.length) (hk : shsEq (l.take k) (m.take k) = true) (hn : shEq l[k] m[k] = true) : shsEq (l.take (k + 1)) (m.take (k + 1)) = true := by
  rw [shsEq_zip] at *
  rw [List.take_succ_eq_append_getElem h, List.take_succ_eq_append_getElem h', List.zip_append (by simp; omega), List.all_append, hk]
  simpa using hn
theorem zip_at_no {l m : List Sh} {k : Nat} (h : k < l.length) (h' : k < m.length) (hn : shEq l[k] m[k] = false) : shsEq l m = false := by
  rw [shsEq_zip, List.all_eq_false]
  refine ⟨(l[k], m[k]), ?_, by simp [hn]⟩
  rw [List.mem_iff_getElem]
  exact ⟨k, by simp; omega, by simp⟩

set_option maxRecDepth 100000 in
set_option maxHeartbeats 2000000 in
theorem specSame_yes (k : Int) (sy na : List ByteArray) (su su' : List Sh) (ih : ∀ x ∈ su, SsAt x) (hl : su.length = su'.length) (v u : Value) (w : World) (h : IsSh w (.mk k sy na su) v) (g : IsSh w (.mk k sy na su') u) :
    Calls Tryd.prog 62 #[v, u] w fun e w' => e = .returned (.bool (shsEq su su')) ∧ Below w.heap.size w w' := by
  obtain ⟨p1, m1, p2, m2, p3, m3, rfl, _, h1, h2, h3⟩ := h.open
  obtain ⟨q1, j1, q2, j2, q3, j3, rfl, _, g1, g2, g3⟩ := g.open
  have H1 := Lib.hid h1
  have H2 := Lib.hid h2
  have G1 := Lib.hid g1
  have G2 := Lib.hid g2
  have IH := Lib.hid ih
  have HL := Lib.hid hl
  have b4 : ((su.length : Int) != (su'.length : Int)) = false := by simp [hl]
  have HB0 := Lib.hid ((below_alloc w (.cells #[.int .i64 k, .slice p1 sy.length m1, .slice p2 na.length m2, .slice p3 su.length m3] 31)).alloc (by simp) (.cells #[.int .i64 k, .slice q1 sy.length j1, .slice q2 na.length j2, .slice q3 su'.length j3] 31))
  obtain ⟨n0, n1⟩ := two_new w (.cells #[.int .i64 k, .slice p1 sy.length m1, .slice p2 na.length m2, .slice p3 su.length m3] 31) (.cells #[.int .i64 k, .slice q1 sy.length j1, .slice q2 na.length j2, .slice q3 su'.length j3] 31)
  have A0 := Lib.hid n0
  have B0 := Lib.hid n1
  obtain ⟨a, cap, he, h4, h5, h6⟩ := h3
  simp only [Value.slice.injEq] at he
  obtain ⟨rfl, _, rfl⟩ := he
  obtain ⟨a', cap', he, g4, g5, g6⟩ := g3
  simp only [Value.slice.injEq] at he
  obtain ⟨rfl, _, rfl⟩ := he
  have H6 := Lib.hid h6
  have G6 := Lib.hid g6
  clear h g h1 h2 g1 g2 n0 n1 ih hl h6 g6
  go_enter Tryd.func62, Tryd.ntmps62
  go_wp2_with fail
  refine (sameStrs_any _ _ sy sy _ (H1.out.keep (Keeps.of_below HB0.out)) (G1.out.keep (Keeps.of_below HB0.out)) true (decide_eq_true rfl)).mono ?_
  rintro e w1 ⟨rfl, hb1⟩
  have A1 := Lib.hid (blk_below A0.out hb1 (blk4 A0.out).2.2.2.2.2.2.2.2)
  have B1 := Lib.hid (blk_below B0.out hb1 (blk4 B0.out).2.2.2.2.2.2.2.2)
  have HB1 := Lib.hid (HB0.out.trans (hb1.mono HB0.out.size))
  clear hb1
  obtain ⟨a0, a1, a2, a3, _, _, _, _, az⟩ := blk4 A1.out
  obtain ⟨d0, d1, d2, d3, _, _, _, _, dz⟩ := blk4 B1.out
  go_wp2_with fail
  refine (sameStrs_any _ _ na na _ (H2.out.keep (Keeps.of_below HB1.out)) (G2.out.keep (Keeps.of_below HB1.out)) true (decide_eq_true rfl)).mono ?_
  rintro e w2 ⟨rfl, hb2⟩
  have A2 := Lib.hid (blk_below A1.out hb2 az)
  have B2 := Lib.hid (blk_below B1.out hb2 dz)
  have HB2 := Lib.hid (HB1.out.trans (hb2.mono HB1.out.size))
  clear hb2 a0 a1 a2 a3 d0 d1 d2 d3 az dz
  obtain ⟨a0, a1, a2, a3, _, _, _, _, az⟩ := blk4 A2.out
  obtain ⟨d0, d1, d2, d3, _, _, _, _, dz⟩ := blk4 B2.out
  go_wp2_with fail
  clear a0 a1 a2 a3 d0 d1 d2 d3 az dz
  go_loopw [5] (fun i wr => ∃ j : Nat, j ≤ su.length ∧ i = .int .i64 j ∧ Hid (shsEq (su.take j) (su'.take j) = true) ∧ Hid (Below w.heap.size w wr) ∧ Hid (wr.heap[w.heap.size]? = some (.cells #[.int .i64 k, .slice p1 sy.length m1, .slice p2 na.length m2, .slice p3 su.length m3] 31 (0, 0)))
     ∧ Hid (wr.heap[w.heap.size + 1]? = some (.cells #[.int .i64 k, .slice q1 sy.length j1, .slice q2 na.length j2, .slice q3 su'.length j3] 31 (0, 0)))) (fun i _ => su.length - (intOf i).toNat)
  case atStart => exact ⟨0, Nat.zero_le _, rfl, by show _ = _; simp [shsEq], HB2.out, A2.out, B2.out⟩
  case round =>
    obtain ⟨j, hj, rfl, HJ, HBr, HA, HC⟩ := hrel
    obtain ⟨a0, a1, a2, a3, _, _, _, _, az⟩ := blk4 HA.out
    obtain ⟨d0, d1, d2, d3, _, _, _, _, dz⟩ := blk4 HC.out
    by_cases hlt : j < su.length
    · have hm : j < su'.length := by have := HL.out; omega
      obtain ⟨b, off, rfl, c0, c1, c2, c3, s0, s1, s2, s3, s4⟩ := IsShs.at H6.out hlt
      obtain ⟨b', off', rfl, e0, e1, e2, e3, r0, r1, r2, r3, r4⟩ := IsShs.at G6.out hm
      have HKp := Lib.hid (Keeps.of_below HBr.out)
      have k0 := HKp.out _ _ _ s0
      have k1 := HKp.out _ _ _ s1
      have k2 := HKp.out _ _ _ s2
      have k3 := HKp.out _ _ _ s3
      have K4 := Lib.hid (IsSh.keep HKp.out _ _ s4)
      have l0 := HKp.out _ _ _ r0
      have l1 := HKp.out _ _ _ r1
      have l2 := HKp.out _ _ _ r2
      have l3 := HKp.out _ _ _ r3
      have L4 := Lib.hid (IsSh.keep HKp.out _ _ r4)
      clear s0 s1 s2 s3 s4 r0 r1 r2 r3 r4
      cases hp : shEq su[j] su'[j]
      · have HP := Lib.hid hp
        have HN := Lib.hid (zip_at_no hlt hm hp)
        clear hp
        go_wp2_with fail
        go_still_tail 10, (by kernel_rfl)
        change wpList _ _ _ _ _ wr.drew
        go_wp2_with fail
        refine (IH.out su[j] (List.getElem_mem hlt) su'[j] _ _ _ (IsSh.keep keeps_drew _ _ K4.out) (IsSh.keep keeps_drew _ _ L4.out)).mono ?_
        rintro e w3 ⟨rfl, hb3⟩
        rw [HP.out]
        have HB3 := Lib.hid (HBr.out.drew.trans (hb3.mono HBr.out.size))
        clear hb3 a0 a1 a2 a3 az d0 d1 d2 d3 dz k0 k1 k2 k3 l0 l1 l2 l3
        go_wp2_with fail
        go_ret
        exact ⟨ret_bool HN.out.symm, HB3.out⟩
      · have HP := Lib.hid hp
        have HN := Lib.hid (zip_take_succ hlt hm HJ.out hp)
        clear hp
        go_wp2_with fail
        go_still_tail 10, (by kernel_rfl)
        change wpList _ _ _ _ _ wr.drew
        go_wp2_with fail
        refine (IH.out su[j] (List.getElem_mem hlt) su'[j] _ _ _ (IsSh.keep keeps_drew _ _ K4.out) (IsSh.keep keeps_drew _ _ L4.out)).mono ?_
        rintro e w3 ⟨rfl, hb3⟩
        rw [HP.out]
        have HB3 := Lib.hid (HBr.out.drew.trans (hb3.mono HBr.out.size))
        have HA3 := Lib.hid (blk_below (w := wr.drew) HA.out hb3 az)
        have HC3 := Lib.hid (blk_below (w := wr.drew) HC.out hb3 dz)
        clear hb3 a0 a1 a2 a3 az d0 d1 d2 d3 dz k0 k1 k2 k3 l0 l1 l2 l3
        go_wp2_with fail
        go_roundw
        case rel => exact ⟨j + 1, hlt, by go_num, HN.out, HB3.out, HA3.out, HC3.out⟩
        case measure => simp [intOf]; omega
    · obtain rfl : j = su.length := by omega
      have HN : Hid (shsEq su su' = true) := by have := HJ.out; rwa [List.take_length, HL.out, List.take_length] at this
      go_wp2_with fail
      go_ret
      exact ⟨ret_bool HN.out.symm, HBr.out⟩

/-- spec.ShapeSame. -/
theorem specSame_any : ∀ x, SsAt x := by
  refine Sh.ind fun k sy na su ih y v u w h g => ?_
  cases hf : fieldsEq (.mk k sy na su) y
  · have e : shEq (.mk k sy na su) y = false := by rw [shEq_is, hf]; rfl
    rw [e]
    exact specSame_no _ y v u w h g hf
  · have e : shEq (.mk k sy na su) y = shsEq su y.su := by rw [shEq_is, hf]; rfl
    rw [e]
    cases y with | mk k' sy' na' su' =>
    obtain ⟨rfl, rfl, rfl, hl⟩ := of_decide_eq_true hf
    exact specSame_yes _ _ _ su su' ih hl v u w h g
end Go.Proofs.YtfdhmkmeffgkgaaDoor
