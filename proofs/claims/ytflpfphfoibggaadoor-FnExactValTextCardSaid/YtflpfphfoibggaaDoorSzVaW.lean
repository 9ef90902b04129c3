/- Walks: laws.szValS, laws.szVal. -/
import Derived.Test.YtflpfphfoibggaaDoorOwnVa
import Derived.Test.YtflpfphfoibggaaDoorSzW
namespace Go.Proofs.YtflpfphfoibggaaDoor
open Go.RowKit

/-- szVal's contract at one Val. -/
def SzVAt (x : Va) : Prop := ∀ (v : Value) (left : Nat) (w : World), IsVa w x v → left ≤ 1048576 →
  Calls Tryd.prog 32 #[v, .int .i64 left] w fun e w' => e = .returned (.int .i64 (leftOf left x.sz)) ∧ Below w.heap.size w w'

theorem vszs_take (l : List Va) (k : Nat) (h : k < l.length) : Va.szs (l.take (k + 1)) = Va.szs (l.take k) + l[k].sz := by
  induction l generalizing k with
  | nil => cases h
  | cons x l ih =>
    cases k with
    | zero => simp [Va.szs]
    | succ k => simp only [List.take_succ_cons, Va.szs, List.getElem_cons_succ]; rw [ih k (by simpa using h)]; omega
theorem vszs_take_le (l : List Va) (k : Nat) : Va.szs (l.take k) ≤ Va.szs l := by
  induction l generalizing k with
  | nil => simp [Va.szs]
  | cons x l ih =>
    cases k with
    | zero => simp [Va.szs]
    | succ k => simp only [List.take_succ_cons, Va.szs]; have := ih k; omega

set_option maxHeartbeats 400000 in
theorem szVas_any (v : Value) (l : List Va) (ih : ∀ x ∈ l, SzVAt x) (left : Nat) (w : World) (h : IsVas w v l) (hl : left ≤ 1048576) :
    Calls Tryd.prog 69 #[v, .int .i64 left] w fun e w' => e = .returned (.int .i64 (leftOf left (l.length + Va.szs l))) ∧ Below w.heap.size w w' := by
  obtain ⟨a, cap, rfl, h3, h4, h6⟩ := h
  have H6 := Lib.hid h6
  have IH := Lib.hid ih
  clear h6 ih
  by_cases hlen : l.length ≤ left
  · have hz : 0 ≤ (left : Int) - l.length := by omega
    go_enter Tryd.func69, Tryd.ntmps69
    go_wp2_with fail
    go_loopw [1, 5] (fun r i wr => ∃ k q : Nat, k ≤ l.length ∧ i = .int .i64 k ∧ r = .int .i64 q ∧ q ≤ 1048576 ∧ Hid (q + (l.length + Va.szs (l.take k)) = left) ∧ Hid (Below w.heap.size w wr)) (fun _ i _ => l.length - (intOf i).toNat)
    case atStart => exact ⟨0, left - l.length, Nat.zero_le _, rfl, by rw [Int.ofNat_sub hlen], by omega, by show _ = _; simp [Va.szs]; omega, Below.refl _ _⟩
    case round =>
      obtain ⟨k, q, hk, rfl, rfl, hq, HQ, HB⟩ := hrel
      by_cases hlt : k < l.length
      · obtain ⟨b, off, rfl, c0, c1, c2, c3, g0, g1, g2, g3, g4⟩ := IsVas.at H6.out hlt
        have HK := Lib.hid (Keeps.of_below HB.out)
        have k0 := HK.out _ _ _ g0
        have k1 := HK.out _ _ _ g1
        have k2 := HK.out _ _ _ g2
        have k3 := HK.out _ _ _ g3
        have K4 := Lib.hid (IsVa.keep HK.out _ _ g4)
        clear g0 g1 g2 g3 g4
        have HT := Lib.hid (vszs_take l k hlt)
        have HL := Lib.hid (vszs_take_le l (k + 1))
        by_cases hle : l[k].sz ≤ q
        · have hle' : 0 ≤ ((q - l[k].sz : Nat) : Int) := by omega
          have HN := Lib.hid (show q - l[k].sz + (l.length + Va.szs (l.take (k + 1))) = left by rw [HT.out]; have := HQ.out; omega)
          have HE := Lib.hid (leftOf_le hle)
          go_wp2_with fail
          refine (IH.out _ (List.getElem_mem hlt) _ q _ K4.out hq).mono ?_
          rintro e w1 ⟨rfl, hb1⟩
          rw [HE.out]
          have HB1 := Lib.hid (HB.out.trans (hb1.mono HB.out.size))
          clear hb1
          go_wp2_with fail
          go_roundw
          case rel => exact ⟨k + 1, q - l[k].sz, hlt, by go_num, rfl, by omega, HN.out, HB1.out⟩
          case measure => simp [intOf]; omega
        · have HR := Lib.hid (leftOf_lt (left := left) (n := l.length + Va.szs l) (by have := HQ.out; have := HT.out; have := HL.out; omega))
          have HE := Lib.hid (leftOf_lt (left := q) (n := l[k].sz) (by omega))
          go_wp2_with fail
          refine (IH.out _ (List.getElem_mem hlt) _ q _ K4.out hq).mono ?_
          rintro e w1 ⟨rfl, hb1⟩
          rw [HE.out]
          have HB1 := Lib.hid (HB.out.trans (hb1.mono HB.out.size))
          clear hb1
          go_wp2_with fail
          go_ret
          exact ⟨ret_int HR.out.symm, HB1.out⟩
      · obtain rfl : k = l.length := by omega
        have HR := Lib.hid (show (q : Int) = leftOf left (l.length + Va.szs l) by
          have := HQ.out; rw [List.take_length] at this
          rw [leftOf_le (by omega)]; omega)
        go_wp2_with fail
        go_ret
        exact ⟨ret_int HR.out, HB.out⟩
  · have hz : (left : Int) - l.length < 0 := by omega
    have HR := Lib.hid (leftOf_lt (left := left) (n := l.length + Va.szs l) (by omega))
    go_enter Tryd.func69, Tryd.ntmps69
    go_wp2_with fail
    go_ret
    exact ⟨ret_int HR.out.symm, Below.refl _ _⟩

set_option maxHeartbeats 400000 in
theorem szVa_any : ∀ x, SzVAt x := by
  refine Va.ind fun k n t it ih v left w h hl => ?_
  obtain ⟨vp, rfl, h1, h2, h3, h4⟩ := h.parts
  have IH := Lib.hid ih
  have G4 := Lib.hid (h4.keep (keeps_alloc w (.cells #[.int .i64 k, .int .i64 n, .string t, vp] 50)))
  have HB := Lib.hid (below_alloc w (.cells #[.int .i64 k, .int .i64 n, .string t, vp] 50))
  have HZ : Hid (Va.sz (.mk k n t it) = t.size + (it.length + Va.szs it)) := by show _ = _; simp only [Va.sz]
  clear h ih h1 h2 h4
  by_cases a1 : t.size ≤ left
  · obtain ⟨q, hq⟩ : ∃ q, q = left - t.size := ⟨_, rfl⟩
    have HQ := Lib.hid hq
    have hq1 : q ≤ 1048576 := by omega
    have E1 := Lib.hid (show (left : Int) - t.size = (q : Int) by omega)
    have z1 : 0 ≤ (left : Int) - t.size := by omega
    clear hq
    by_cases a3 : it.length + Va.szs it ≤ q
    · have E3 := Lib.hid (leftOf_le a3)
      have z3 : 0 ≤ ((q - (it.length + Va.szs it) : Nat) : Int) := by omega
      have HR : Hid (((q - (it.length + Va.szs it) : Nat) : Int) = leftOf left (Va.sz (.mk k n t it))) := by
        show _ = _
        have := HZ.out; have := HQ.out
        rw [leftOf_le (by omega)]; omega
      go_enter Tryd.func32, Tryd.ntmps32
      go_wp2_with fail
      rw [E1.out]
      refine (szVas_any _ _ IH.out q _ G4.out hq1).mono ?_
      rintro e w1 ⟨rfl, hb1⟩
      rw [E3.out]
      have HB1 := Lib.hid (HB.out.trans (hb1.mono HB.out.size))
      clear hb1
      go_wp2_with fail
      go_ret
      exact ⟨ret_int HR.out, HB1.out⟩
    · have E3 := Lib.hid (leftOf_lt (left := q) (n := it.length + Va.szs it) (by omega))
      have HR : Hid (leftOf left (Va.sz (.mk k n t it)) = -1) := by
        show _ = _
        have := HZ.out; have := HQ.out
        rw [leftOf_lt (by omega)]
      go_enter Tryd.func32, Tryd.ntmps32
      go_wp2_with fail
      rw [E1.out]
      refine (szVas_any _ _ IH.out q _ G4.out hq1).mono ?_
      rintro e w1 ⟨rfl, hb1⟩
      rw [E3.out]
      have HB1 := Lib.hid (HB.out.trans (hb1.mono HB.out.size))
      clear hb1
      go_wp2_with fail
      go_ret
      exact ⟨ret_int HR.out.symm, HB1.out⟩
  · have z1 : (left : Int) - t.size < 0 := by omega
    have HR : Hid (leftOf left (Va.sz (.mk k n t it)) = -1) := by
      show _ = _
      have := HZ.out
      rw [leftOf_lt (by omega)]
    go_enter Tryd.func32, Tryd.ntmps32
    go_wp2_with fail
    go_ret
    exact ⟨ret_int HR.out.symm, HB.out⟩
end Go.Proofs.YtflpfphfoibggaaDoor
