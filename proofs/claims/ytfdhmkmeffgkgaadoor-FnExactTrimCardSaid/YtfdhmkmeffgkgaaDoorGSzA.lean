/- Walks: laws.szStringS, laws.szShapeS, laws.szShape. · Walks: laws.szValS, laws.szVal. -/
import Derived.Test.YtfdhmkmeffgkgaaDoorGOwnA
import Derived.WalkLawsBesides
import Derived.WalkSpells
import Derived.Lib.Hide
import Derived.Outline
namespace Go.Proofs.YtfdhmkmeffgkgaaDoor
open Go.RowKit

/-- What is left behind a count of n (or -1). -/
def leftOf (left : Nat) (n : Nat) : Int := if n ≤ left then ((left - n : Nat) : Int) else -1

theorem leftOf_lt {left n : Nat} (h : left < n) : leftOf left n = -1 := by unfold leftOf; rw [if_neg (by omega)]
theorem leftOf_le {left n : Nat} (h : n ≤ left) : leftOf left n = ((left - n : Nat) : Int) := by unfold leftOf; rw [if_pos h]

theorem sum_take_succ (l : List ByteArray) (k : Nat) (h : k < l.length) : ((l.take (k + 1)).map (·.size)).sum = ((l.take k).map (·.size)).sum + l[k].size := by
  rw [List.take_succ_eq_append_getElem h]; simp only [List.map_append, List.sum_append, List.map_cons, List.map_nil, List.sum_cons, List.sum_nil, Nat.add_zero]
theorem sum_take_le (l : List ByteArray) (k : Nat) : ((l.take k).map (·.size)).sum ≤ (l.map (·.size)).sum := by
  conv => rhs; rw [← List.take_append_drop k l]
  simp only [List.map_append, List.sum_append]
  omega

theorem IsStrs.at {w : World} {a : Option Addr} {l : List ByteArray} (h6 : l = [] ∨ ∃ b off, a = some ⟨b, off, none⟩ ∧ StrAt w b off l) {k : Nat} (hk : k < l.length) :
    ∃ b off, a = some ⟨b, off, none⟩ ∧ w.cell? ⟨b, off + k, none⟩ = some (.string l[k]) := by
  rcases h6 with rfl | ⟨b, off, rfl, h⟩
  · cases hk
  · exact ⟨b, off, rfl, h k hk⟩

set_option maxHeartbeats 400000 in
theorem szStrs_any (v : Value) (l : List ByteArray) (left : Nat) (w : World) (h : IsStrs w v l) (hl : left ≤ 1048576) :
    Calls Tryd.prog 22 #[v, .int .i64 left] w fun e w' => e = .returned (.int .i64 (leftOf left (strsSz l))) ∧ w = w' := by
  obtain ⟨h1, h2, a, cap, rfl, h3, h4, h6⟩ := h
  have H6 := Lib.hid h6
  have H2 := Lib.hid h2
  clear h6 h2
  by_cases hlen : l.length ≤ left
  · have hz : 0 ≤ (left : Int) - l.length := by omega
    go_enter Tryd.func22, Tryd.ntmps22
    go_wp2_with fail
    go_loop [1, 5] (fun r i => ∃ k q : Nat, k ≤ l.length ∧ i = .int .i64 k ∧ r = .int .i64 q ∧ q ≤ 1048576 ∧ Hid (q + (l.length + ((l.take k).map (·.size)).sum) = left)) (fun _ i => l.length - (intOf i).toNat)
    case atStart => exact ⟨0, left - l.length, Nat.zero_le _, rfl, by rw [Int.ofNat_sub hlen], by omega, by show _ = _; simp; omega⟩
    case round =>
      obtain ⟨k, q, hk, rfl, rfl, hq, HQ⟩ := hrel
      by_cases hlt : k < l.length
      · obtain ⟨b, off, rfl, hc⟩ := IsStrs.at H6.out hlt
        have hs := H2.out l[k] (List.getElem_mem _)
        have HT := Lib.hid (sum_take_succ l k hlt)
        have HL := Lib.hid (sum_take_le l (k + 1))
        by_cases hle : l[k].size ≤ q
        · have hle' : 0 ≤ (q : Int) - l[k].size := by omega
          have HN := Lib.hid (show q - l[k].size + (l.length + ((l.take (k + 1)).map (·.size)).sum) = left by rw [HT.out]; have := HQ.out; omega)
          have HE := Lib.hid (show (q : Int) - l[k].size = ((q - l[k].size : Nat) : Int) by rw [Int.ofNat_sub hle])
          go_wp2_with fail
          go_round
          case rel => exact ⟨k + 1, q - l[k].size, hlt, by go_num, by rw [HE.out], by omega, HN.out⟩
          case measure => simp [intOf]; omega
        · have hle' : (q : Int) - l[k].size < 0 := by omega
          have HR := Lib.hid (leftOf_lt (left := left) (n := strsSz l) (by unfold strsSz; have := HQ.out; have := HT.out; have := HL.out; omega))
          go_wp2_with fail
          go_ret
          exact ⟨ret_int HR.out.symm, rfl⟩
      · obtain rfl : k = l.length := by omega
        have HR := Lib.hid (show (q : Int) = leftOf left (strsSz l) by
          have := HQ.out; rw [List.take_length] at this
          rw [leftOf_le (by unfold strsSz; omega)]; unfold strsSz; omega)
        go_wp2_with fail
        go_ret
        exact ⟨ret_int HR.out, rfl⟩
  · have hz : (left : Int) - l.length < 0 := by omega
    have HR := Lib.hid (leftOf_lt (left := left) (n := strsSz l) (by unfold strsSz; omega))
    go_enter Tryd.func22, Tryd.ntmps22
    go_wp2_with fail
    go_ret
    exact ⟨ret_int HR.out.symm, rfl⟩

/-- szShape's contract at one shape. -/
def SzAt (x : Sh) : Prop := ∀ (v : Value) (left : Nat) (w : World), IsSh w x v → left ≤ 1048576 →
  Calls Tryd.prog 23 #[v, .int .i64 left] w fun e w' => e = .returned (.int .i64 (leftOf left x.sz)) ∧ Below w.heap.size w w'

theorem szs_take (l : List Sh) (k : Nat) (h : k < l.length) : Sh.szs (l.take (k + 1)) = Sh.szs (l.take k) + l[k].sz := by
  induction l generalizing k with
  | nil => cases h
  | cons x l ih =>
    cases k with
    | zero => simp [Sh.szs]
    | succ k => simp only [List.take_succ_cons, Sh.szs, List.getElem_cons_succ]; rw [ih k (by simpa using h)]; omega
theorem szs_take_le (l : List Sh) (k : Nat) : Sh.szs (l.take k) ≤ Sh.szs l := by
  induction l generalizing k with
  | nil => simp [Sh.szs]
  | cons x l ih =>
    cases k with
    | zero => simp [Sh.szs]
    | succ k => simp only [List.take_succ_cons, Sh.szs]; have := ih k; omega

theorem IsShs.at {w : World} {a : Option Addr} {l : List Sh} (h6 : l = [] ∨ ∃ b off, a = some ⟨b, off, none⟩ ∧ ShAt w b off l) {k : Nat} (hk : k < l.length) :
    ∃ b off, a = some ⟨b, off, none⟩ ∧ ∃ c0 c1 c2 c3, w.cell? ⟨b, off + k * 4, none⟩ = some c0 ∧ w.cell? ⟨b, off + k * 4 + 1, none⟩ = some c1 ∧ w.cell? ⟨b, off + k * 4 + 2, none⟩ = some c2 ∧ w.cell? ⟨b, off + k * 4 + 3, none⟩ = some c3 ∧ IsSh w l[k] (.agg #[c0, c1, c2, c3]) := by
  rcases h6 with rfl | ⟨b, off, rfl, h⟩
  · cases hk
  · exact ⟨b, off, rfl, h.get k hk⟩

set_option maxHeartbeats 400000 in
theorem szShs_any (v : Value) (l : List Sh) (ih : ∀ x ∈ l, SzAt x) (left : Nat) (w : World) (h : IsShs w v l) (hl : left ≤ 1048576) :
    Calls Tryd.prog 45 #[v, .int .i64 left] w fun e w' => e = .returned (.int .i64 (leftOf left (l.length + Sh.szs l))) ∧ Below w.heap.size w w' := by
  obtain ⟨a, cap, rfl, h3, h4, h6⟩ := h
  have H6 := Lib.hid h6
  have IH := Lib.hid ih
  clear h6 ih
  by_cases hlen : l.length ≤ left
  · have hz : 0 ≤ (left : Int) - l.length := by omega
    go_enter Tryd.func45, Tryd.ntmps45
    go_wp2_with fail
    go_loopw [1, 5] (fun r i wr => ∃ k q : Nat, k ≤ l.length ∧ i = .int .i64 k ∧ r = .int .i64 q ∧ q ≤ 1048576 ∧ Hid (q + (l.length + Sh.szs (l.take k)) = left) ∧ Hid (Below w.heap.size w wr)) (fun _ i _ => l.length - (intOf i).toNat)
    case atStart => exact ⟨0, left - l.length, Nat.zero_le _, rfl, by rw [Int.ofNat_sub hlen], by omega, by show _ = _; simp [Sh.szs]; omega, Below.refl _ _⟩
    case round =>
      obtain ⟨k, q, hk, rfl, rfl, hq, HQ, HB⟩ := hrel
      by_cases hlt : k < l.length
      · obtain ⟨b, off, rfl, c0, c1, c2, c3, g0, g1, g2, g3, g4⟩ := IsShs.at H6.out hlt
        have HK := Lib.hid (Keeps.of_below HB.out)
        have k0 := HK.out _ _ _ g0
        have k1 := HK.out _ _ _ g1
        have k2 := HK.out _ _ _ g2
        have k3 := HK.out _ _ _ g3
        have K4 := Lib.hid (IsSh.keep HK.out _ _ g4)
        clear g0 g1 g2 g3 g4
        have HT := Lib.hid (szs_take l k hlt)
        have HL := Lib.hid (szs_take_le l (k + 1))
        by_cases hle : l[k].sz ≤ q
        · have hle' : 0 ≤ ((q - l[k].sz : Nat) : Int) := by omega
          have HN := Lib.hid (show q - l[k].sz + (l.length + Sh.szs (l.take (k + 1))) = left by rw [HT.out]; have := HQ.out; omega)
          have HE := Lib.hid (leftOf_le hle)
          go_wp2_with fail
          refine (IH.out _ (List.getElem_mem hlt) _ q _ K4.out hq).mono ?_
          rintro e w1 ⟨rfl, hb1⟩
          rw [HE.out]
          have HB1 := Lib.hid (HB.out.trans (hb1.mono HB.out.size))
          clear hb1
          go_wp2_with fail
          go_roundw
          case rel => exact ⟨k + 1, q - l[k].sz, hlt, by go_num, rfl, by omega, HN.out, HB1.out⟩
          case measure => simp [intOf]; omega
        · have HR := Lib.hid (leftOf_lt (left := left) (n := l.length + Sh.szs l) (by have := HQ.out; have := HT.out; have := HL.out; omega))
          have HE := Lib.hid (leftOf_lt (left := q) (n := l[k].sz) (by omega))
          go_wp2_with fail
          refine (IH.out _ (List.getElem_mem hlt) _ q _ K4.out hq).mono ?_
          rintro e w1 ⟨rfl, hb1⟩
          rw [HE.out]
          have HB1 := Lib.hid (HB.out.trans (hb1.mono HB.out.size))
          clear hb1
          go_wp2_with fail
          go_ret
          exact ⟨ret_int HR.out.symm, HB1.out⟩
      · obtain rfl : k = l.length := by omega
        have HR := Lib.hid (show (q : Int) = leftOf left (l.length + Sh.szs l) by
          have := HQ.out; rw [List.take_length] at this
          rw [leftOf_le (by omega)]; omega)
        go_wp2_with fail
        go_ret
        exact ⟨ret_int HR.out, HB.out⟩
  · have hz : (left : Int) - l.length < 0 := by omega
    have HR := Lib.hid (leftOf_lt (left := left) (n := l.length + Sh.szs l) (by omega))
    go_enter Tryd.func45, Tryd.ntmps45
    go_wp2_with fail
    go_ret
    exact ⟨ret_int HR.out.symm, Below.refl _ _⟩

set_option maxHeartbeats 400000 in
theorem szSh_any : ∀ x, SzAt x := by
  refine Sh.ind fun k sy na su ih v left w h hl => ?_
  obtain ⟨vs, vn, vp, rfl, h1, h2, h3, h4⟩ := h.parts
  have IH := Lib.hid ih
  have G2 := Lib.hid (h2.keep (keeps_alloc w (.cells #[.int .i64 k, vs, vn, vp] 25)))
  have G3 := Lib.hid (h3.keep (keeps_alloc w (.cells #[.int .i64 k, vs, vn, vp] 25)))
  have G4 := Lib.hid (h4.keep (keeps_alloc w (.cells #[.int .i64 k, vs, vn, vp] 25)))
  have HB := Lib.hid (below_alloc w (.cells #[.int .i64 k, vs, vn, vp] 25))
  have HZ : Hid (Sh.sz (.mk k sy na su) = strsSz sy + strsSz na + (su.length + Sh.szs su)) := by show _ = _; simp only [Sh.sz]
  clear h ih h2 h3 h4 h1
  by_cases a1 : strsSz sy ≤ left
  · have E1 := Lib.hid (leftOf_le a1)
    obtain ⟨q, hq⟩ : ∃ q, q = left - strsSz sy := ⟨_, rfl⟩
    have HQ := Lib.hid hq
    have hq1 : q ≤ 1048576 := by omega
    rw [← hq] at E1
    have z1 : 0 ≤ (q : Int) := by omega
    clear hq
    by_cases a2 : strsSz na ≤ q
    · have E2 := Lib.hid (leftOf_le a2)
      obtain ⟨p, hp⟩ : ∃ p, p = q - strsSz na := ⟨_, rfl⟩
      have HP := Lib.hid hp
      have hp1 : p ≤ 1048576 := by omega
      rw [← hp] at E2
      have z2 : 0 ≤ (p : Int) := by omega
      clear hp
      by_cases a3 : su.length + Sh.szs su ≤ p
      · have E3 := Lib.hid (leftOf_le a3)
        have z3 : 0 ≤ ((p - (su.length + Sh.szs su) : Nat) : Int) := by omega
        have HR : Hid (((p - (su.length + Sh.szs su) : Nat) : Int) = leftOf left (Sh.sz (.mk k sy na su))) := by
          show _ = _
          have := HZ.out; have := HP.out; have := HQ.out
          rw [leftOf_le (by omega)]; omega
        go_enter Tryd.func23, Tryd.ntmps23
        go_wp2_with fail
        refine (szStrs_any _ _ left _ G2.out hl).mono ?_
        rintro e w' ⟨rfl, rfl⟩
        rw [E1.out]
        go_wp2_with fail
        refine (szStrs_any _ _ q _ G3.out hq1).mono ?_
        rintro e w' ⟨rfl, rfl⟩
        rw [E2.out]
        go_wp2_with fail
        refine (szShs_any _ _ IH.out p _ G4.out hp1).mono ?_
        rintro e w1 ⟨rfl, hb1⟩
        rw [E3.out]
        have HB1 := Lib.hid (HB.out.trans (hb1.mono HB.out.size))
        clear hb1
        go_wp2_with fail
        go_ret
        exact ⟨ret_int HR.out, HB1.out⟩
      · have E3 := Lib.hid (leftOf_lt (left := p) (n := su.length + Sh.szs su) (by omega))
        have HR : Hid (leftOf left (Sh.sz (.mk k sy na su)) = -1) := by
          show _ = _
          have := HZ.out; have := HP.out; have := HQ.out
          rw [leftOf_lt (by omega)]
        go_enter Tryd.func23, Tryd.ntmps23
        go_wp2_with fail
        refine (szStrs_any _ _ left _ G2.out hl).mono ?_
        rintro e w' ⟨rfl, rfl⟩
        rw [E1.out]
        go_wp2_with fail
        refine (szStrs_any _ _ q _ G3.out hq1).mono ?_
        rintro e w' ⟨rfl, rfl⟩
        rw [E2.out]
        go_wp2_with fail
        refine (szShs_any _ _ IH.out p _ G4.out hp1).mono ?_
        rintro e w1 ⟨rfl, hb1⟩
        rw [E3.out]
        have HB1 := Lib.hid (HB.out.trans (hb1.mono HB.out.size))
        clear hb1
        go_wp2_with fail
        go_ret
        exact ⟨ret_int HR.out.symm, HB1.out⟩
    · have E2 := Lib.hid (leftOf_lt (left := q) (n := strsSz na) (by omega))
      have HR : Hid (leftOf left (Sh.sz (.mk k sy na su)) = -1) := by
        show _ = _
        have := HZ.out; have := HQ.out
        rw [leftOf_lt (by omega)]
      go_enter Tryd.func23, Tryd.ntmps23
      go_wp2_with fail
      refine (szStrs_any _ _ left _ G2.out hl).mono ?_
      rintro e w' ⟨rfl, rfl⟩
      rw [E1.out]
      go_wp2_with fail
      refine (szStrs_any _ _ q _ G3.out hq1).mono ?_
      rintro e w' ⟨rfl, rfl⟩
      rw [E2.out]
      go_wp2_with fail
      go_ret
      exact ⟨ret_int HR.out.symm, HB.out⟩
  · have E1 := Lib.hid (leftOf_lt (left := left) (n := strsSz sy) (by omega))
    have HR : Hid (leftOf left (Sh.sz (.mk k sy na su)) = -1) := by
      show _ = _
      have := HZ.out
      rw [leftOf_lt (by omega)]
    go_enter Tryd.func23, Tryd.ntmps23
    go_wp2_with fail
    refine (szStrs_any _ _ left _ G2.out hl).mono ?_
    rintro e w' ⟨rfl, rfl⟩
    rw [E1.out]
    go_wp2_with fail
    go_ret
    exact ⟨ret_int HR.out.symm, HB.out⟩
end Go.Proofs.YtfdhmkmeffgkgaaDoor
namespace Go.Proofs.YtfdhmkmeffgkgaaDoor
open Go.RowKit

theorem vszs_take (l : List Va) (k : Nat) (h : k < l.length) : Va.szs (l.take (k + 1)) = Va.szs (l.take k) + l[k].sz := by
  induction l generalizing k with
  | nil => cases h
  | cons x l ih =>
    cases k with
    | zero => simp [Va.szs]
    | succ k => simp only [List.take_succ_cons, Va.szs, List.getElem_cons_succ]; rw [ih k (by simpa using h)]; omega
theorem vszs_take_le (l : List Va) (k : Nat) : Va.szs (l.take k) ≤ Va.szs l := by
  induction l generalizing k with
  | nil => simp [Va.szs]
  | cons x l ih =>
    cases k with
    | zero => simp [Va.szs]
    | succ k => simp only [List.take_succ_cons, Va.szs]; have := ih k; omega

end Go.Proofs.YtfdhmkmeffgkgaaDoor
