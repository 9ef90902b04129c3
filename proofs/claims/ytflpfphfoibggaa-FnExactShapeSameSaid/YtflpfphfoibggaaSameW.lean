/- Walks: slices.Equal, spec.l02Same, impl.fieldsSame, spec.ShapeSame. -/
import Derived.Test.YtflpfphfoibggaaEqW
import Derived.Test.YtflpfphfoibggaaWordsW
import Derived.Test.YtflpfphfoibggaaRightW
namespace Go.Proofs.Ytflpfphfoibggaa
open Go.RowKit

mutual
/-- Are two shapes the same? -/
def shEq : Sh → Sh → Bool
  | .mk k sy na su, .mk k' sy' na' su' => decide (k = k' ∧ sy = sy' ∧ na = na' ∧ su.length = su'.length) && shsEq su su'
def shsEq : List Sh → List Sh → Bool
  | [], _ => true
  | x :: l, m => match m with | [] => true | y :: m => shEq x y && shsEq l m
end
theorem shsEq_zip : ∀ (l m : List Sh), shsEq l m = (l.zip m).all fun p => shEq p.1 p.2
  | [], _ => by simp [shsEq]
  | x :: l, [] => by simp [shsEq]
  | x :: l, y :: m => by simp [shsEq, shsEq_zip l m]
def fieldsEq (x y : Sh) : Bool := decide (x.kd = y.kd ∧ x.sy = y.sy ∧ x.na = y.na ∧ x.su.length = y.su.length)
theorem shEq_is (x y : Sh) : shEq x y = (fieldsEq x y && shsEq x.su y.su) := by
  cases x; cases y; rfl

theorem take_eq_succ {l m : List ByteArray} {k : Nat} (h : k < l.length) (h' : k < m.length) (e : l.take k = m.take k) (e1 : l[k] = m[k]) : l.take (k + 1) = m.take (k + 1) := by
  rw [List.take_succ_eq_append_getElem h, List.take_succ_eq_append_getElem h', e, e1]
theorem ne_at {l m : List ByteArray} {k : Nat} (h : k < l.length) (h' : k < m.length) (e : ¬ l[k] = m[k]) : ¬ l = m := by
  intro he; subst he; exact e rfl

set_option maxHeartbeats 1000000 in
theorem eqStrs_any (v u : Value) (l m : List ByteArray) (w : World) (h : IsStrs w v l) (g : IsStrs w u m) (b : Bool) (hb : decide (l = m) = b) :
    Calls Try.prog 60 #[v, u] w fun e w' => e = .returned (.bool b) ∧ Below w.heap.size w w' := by
  subst hb
  obtain ⟨h1, h2, a, cap, rfl, h3, h4, h6⟩ := h
  obtain ⟨_, _, a', cap', rfl, g3, g4, g6⟩ := g
  have H6 := Lib.hid h6
  have G6 := Lib.hid g6
  clear h6 g6 h2
  by_cases hlen : l.length = m.length
  · have hq0 : ((l.length : Int) != (m.length : Int)) = false := by simp [hlen]
    have HL := Lib.hid hlen
    clear hlen
    go_enter Try.func60, Try.ntmps60
    go_wp2_with fail
    go_loopw [13] (fun i wr => ∃ k : Nat, k ≤ l.length ∧ i = .int .i64 k ∧ Hid (l.take k = m.take k) ∧ Hid (Below w.heap.size w wr)) (fun i _ => l.length - (intOf i).toNat)
    case atStart => exact ⟨0, Nat.zero_le _, rfl, rfl, Below.refl _ _⟩
    case round =>
      obtain ⟨k, hk, rfl, HT, HB⟩ := hrel
      by_cases hlt : k < l.length
      · have hm : k < m.length := by have := HL.out; omega
        obtain ⟨b, off, rfl, hc⟩ := IsStrs.at H6.out hlt
        obtain ⟨b', off', rfl, hc'⟩ := IsStrs.at G6.out hm
        have g0 := Keeps.of_below HB.out _ _ _ hc
        have g1 := Keeps.of_below HB.out _ _ _ hc'
        clear hc hc'
        by_cases he : l[k] = m[k]
        · have HS := Lib.hid (take_eq_succ hlt hm HT.out he)
          rw [he] at g0
          clear he
          go_wp2_with fail
          go_quiet (fail)
          go_wp2_with fail
          go_roundw
          case rel => exact ⟨k + 1, hlt, by go_num, HS.out, below_drewN HB.out _⟩
          case measure => simp [intOf]; omega
        · have HS := Lib.hid (decide_eq_false (ne_at hlt hm he))
          have hq := ba_ne' he
          have hq2 := ba_ne he
          clear he
          go_wp2_with fail
          go_quiet (fail)
          go_wp2_with fail
          go_ret
          exact ⟨ret_bool HS.out.symm, below_drewN HB.out _⟩
      · obtain rfl : k = l.length := by omega
        have HS : Hid (decide (l = m) = true) := by
          show _ = _
          have := HT.out
          rw [List.take_of_length_le (Nat.le_refl _), List.take_of_length_le (by have := HL.out; omega)] at this
          exact decide_eq_true this
        go_wp2_with fail
        go_ret
        exact ⟨ret_bool HS.out.symm, HB.out⟩
  · have HS := Lib.hid (decide_eq_false (show ¬ l = m from fun e => hlen (by rw [e])))
    have hq : ((l.length : Int) != (m.length : Int)) = true := by simp; omega
    clear hlen
    go_enter Try.func60, Try.ntmps60
    go_wp2_with fail
    go_ret
    exact ⟨ret_bool HS.out.symm, Below.refl _ _⟩

set_option maxHeartbeats 1000000 in
theorem sameStrs_any (v u : Value) (l m : List ByteArray) (w : World) (h : IsStrs w v l) (g : IsStrs w u m) (b : Bool) (hb : decide (l = m) = b) :
    Calls Try.prog 38 #[v, u] w fun e w' => e = .returned (.bool b) ∧ Below w.heap.size w w' := by
  subst hb
  obtain ⟨h1, h2, a, cap, rfl, h3, h4, h6⟩ := h
  obtain ⟨_, _, a', cap', rfl, g3, g4, g6⟩ := g
  have H6 := Lib.hid h6
  have G6 := Lib.hid g6
  clear h6 g6 h2
  by_cases hlen : l.length = m.length
  · have hq0 : ((l.length : Int) != (m.length : Int)) = false := by simp [hlen]
    have HL := Lib.hid hlen
    clear hlen
    go_enter Try.func38, Try.ntmps38
    go_wp2_with fail
    go_loopw [5] (fun i wr => ∃ k : Nat, k ≤ l.length ∧ i = .int .i64 k ∧ Hid (l.take k = m.take k) ∧ Hid (Below w.heap.size w wr)) (fun i _ => l.length - (intOf i).toNat)
    case atStart => exact ⟨0, Nat.zero_le _, rfl, rfl, Below.refl _ _⟩
    case round =>
      obtain ⟨k, hk, rfl, HT, HB⟩ := hrel
      by_cases hlt : k < l.length
      · have hm : k < m.length := by have := HL.out; omega
        obtain ⟨b, off, rfl, hc⟩ := IsStrs.at H6.out hlt
        obtain ⟨b', off', rfl, hc'⟩ := IsStrs.at G6.out hm
        have g0 := Keeps.of_below HB.out _ _ _ hc
        have g1 := Keeps.of_below HB.out _ _ _ hc'
        clear hc hc'
        by_cases he : l[k] = m[k]
        · have HS := Lib.hid (take_eq_succ hlt hm HT.out he)
          rw [he] at g0
          clear he
          go_wp2_with fail
          go_quiet (fail)
          go_wp2_with fail
          go_roundw
          case rel => exact ⟨k + 1, hlt, by go_num, HS.out, below_drewN HB.out _⟩
          case measure => simp [intOf]; omega
        · have HS := Lib.hid (decide_eq_false (ne_at hlt hm he))
          have hq := ba_ne' he
          have hq2 := ba_ne he
          clear he
          go_wp2_with fail
          go_quiet (fail)
          go_wp2_with fail
          go_ret
          exact ⟨ret_bool HS.out.symm, below_drewN HB.out _⟩
      · obtain rfl : k = l.length := by omega
        have HS : Hid (decide (l = m) = true) := by
          show _ = _
          have := HT.out
          rw [List.take_of_length_le (Nat.le_refl _), List.take_of_length_le (by have := HL.out; omega)] at this
          exact decide_eq_true this
        go_wp2_with fail
        go_ret
        exact ⟨ret_bool HS.out.symm, HB.out⟩
  · have HS := Lib.hid (decide_eq_false (show ¬ l = m from fun e => hlen (by rw [e])))
    have hq : ((l.length : Int) != (m.length : Int)) = true := by simp; omega
    clear hlen
    go_enter Try.func38, Try.ntmps38
    go_wp2_with fail
    go_ret
    exact ⟨ret_bool HS.out.symm, Below.refl _ _⟩
end Go.Proofs.Ytflpfphfoibggaa
