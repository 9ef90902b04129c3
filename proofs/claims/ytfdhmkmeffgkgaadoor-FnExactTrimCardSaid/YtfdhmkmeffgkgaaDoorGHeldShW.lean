/- Walks: laws.heldShapeS, laws.heldShape: the marks are there. -/
import Derived.Test.YtfdhmkmeffgkgaaDoorGHeA
namespace Go.Proofs.YtfdhmkmeffgkgaaDoor
open Go.RowKit

theorem smarkeds_at : ∀ (l : List Sh) (j k : Nat) (h : j < l.length), (Sh.markeds l k)[j]'(by rw [smarkeds_len]; exact h) = Sh.marked l[j] (k + Sh.mcs (l.take j))
  | [], _, _, h => by cases h
  | x :: l, 0, k, _ => by simp [Sh.markeds, Sh.mcs]
  | x :: l, j + 1, k, h => by
    have := smarkeds_at l j (k + x.mc) (by simpa using h)
    simp only [Sh.markeds, List.take_succ_cons, Sh.mcs, List.getElem_cons_succ] at this ⊢
    rw [this, Nat.add_assoc]

/-- heldShapeS's contract at one list. -/
def HsAt (l : List Sh) : Prop := ∀ (w : World) (v : Value) (k : Nat), IsShs w v (Sh.markeds l k) → k + Sh.mcs l ≤ 1099511627776 →
  Calls Tryd.prog 39 #[v, .int .i64 k] w fun e w' => e = .returned (.int .i64 ((k + Sh.mcs l : Nat) : Int)) ∧ Below w.heap.size w w'

set_option maxRecDepth 100000 in
set_option maxHeartbeats 1000000 in
theorem hs_step (l : List Sh) (ih : ∀ x ∈ l, HsAt x.su) : HsAt l := by
  intro w v k h hk
  obtain ⟨a, cap, rfl, h3, h4, h6⟩ := h
  rw [smarkeds_len] at h3
  have HE := Lib.hid (smarkeds_len l k)
  rw [smarkeds_len]
  have H6 := Lib.hid h6
  have IH := Lib.hid ih
  have HK := Lib.hid hk
  have HTL := Lib.hid (smcs_take_le l)
  clear h6 ih hk
  go_enter Tryd.func39, Tryd.ntmps39
  go_wp2_with fail
  go_loopw [1, 5] (fun a i wr => ∃ j : Nat, j ≤ l.length ∧ a = .int .i64 ((k + Sh.mcs (l.take j) : Nat) : Int) ∧ i = .int .i64 j ∧ Hid (Below w.heap.size w wr)) (fun _ i _ => l.length - (intOf i).toNat)
  case atStart => exact ⟨0, Nat.zero_le _, by simp [Sh.mcs], rfl, Below.refl _ _⟩
  case round =>
    obtain ⟨j, hj, rfl, rfl, HB⟩ := hrel
    by_cases hlt : j < l.length
    · obtain ⟨q, hq⟩ : ∃ q, q = k + Sh.mcs (l.take j) := ⟨_, rfl⟩
      have HQ2 : Hid (q + l[j].mc ≤ 1099511627776) := by show _ ≤ _; rw [hq]; have h1 := smcs_take l j hlt; have h2 := HTL.out (j + 1); have h3 := HK.out; omega
      obtain ⟨b, off, rfl, c0, c1, c2, c3, g0, g1, g2, g3, g4⟩ := IsShs.at H6.out (k := j) (by rw [HE.out]; exact hlt)
      rw [smarkeds_at l j k hlt, ← hq] at g4
      rw [← hq]
      obtain ⟨x, hxe⟩ : ∃ x, x = l[j] := ⟨_, rfl⟩
      rw [← hxe] at g4 HQ2
      cases x with | mk kx sy na su =>
      simp only [Sh.marked] at g4
      obtain ⟨vs, vn, vp, hv, _, hs1, hs2, hs3⟩ := g4.parts
      simp only [Value.agg.injEq, Array.mk.injEq, List.cons.injEq, and_true] at hv
      obtain ⟨rfl, rfl, rfl, rfl⟩ := hv
      have hqb : q + 1 + sy.length + na.length + Sh.mcs su ≤ 1099511627776 := by have := HQ2.out; simp only [Sh.mc] at this; omega
      have HEND : Hid (k + Sh.mcs (l.take (j + 1)) = q + 1 + sy.length + na.length + Sh.mcs su) := by
        show _ = _
        have : (Sh.mk kx sy na su).mc = 1 + sy.length + na.length + Sh.mcs su := by simp only [Sh.mc]
        rw [smcs_take l j hlt, ← hxe, this, hq]; omega
      have hl : l[j].su = su := by rw [← hxe]; rfl
      have ihx := IH.out l[j] (List.getElem_mem hlt)
      rw [hl] at ihx
      have HI := Lib.hid (fun (w' : World) (hb : Below w.heap.size w w') => ihx w' _ (q + 1 + sy.length + na.length) (hs3.keep (Keeps.of_below hb)) hqb)
      obtain ⟨a1, e1, z1, rfl⟩ := hs1.slice
      obtain ⟨a2, e2, z2, rfl⟩ := hs2.slice
      obtain ⟨a3, e3, z3, rfl⟩ : ∃ a e z, c3 = Value.slice a e z := by obtain ⟨a, c, h, _⟩ := hs3; exact ⟨_, _, _, h⟩
      have H1 := Lib.hid (fun (w' : World) (hb : Below w.heap.size w w') => heldStrs_any w' _ sy.length (q + 1) (hs1.keep (Keeps.of_below hb)) (by omega))
      have H2 := Lib.hid (fun (w' : World) (hb : Below w.heap.size w w') => heldStrs_any w' _ na.length (q + 1 + sy.length) (hs2.keep (Keeps.of_below hb)) (by omega))
      have HC := Lib.hid (And.intro g0 (And.intro g1 (And.intro g2 g3)))
      have HKp := Lib.hid (Keeps.of_below HB.out)
      have k0 := HKp.out _ _ _ g0
      have k1 := HKp.out _ _ _ g1
      have k2 := HKp.out _ _ _ g2
      have k3 := HKp.out _ _ _ g3
      have hz1 : 0 ≤ ((q + 1 + sy.length : Nat) : Int) := by omega
      have hz2 : 0 ≤ ((q + 1 + sy.length + na.length : Nat) : Int) := by omega
      have hz3 : 0 ≤ ((q + 1 + sy.length + na.length + Sh.mcs su : Nat) : Int) := by omega
      clear g0 g1 g2 g3 g4 hs1 hs2 ihx hl hq hxe
      go_wp2_with fail
      rw [show ((q : Int) + 1) = ((q + 1 : Nat) : Int) by omega]
      refine (H1.out wr HB.out).mono ?_
      rintro e w1 ⟨rfl, hb1⟩
      have HB1 := Lib.hid (HB.out.trans (hb1.mono HB.out.size))
      clear hb1 k0 k1 k2 k3
      have HKp1 := Lib.hid (Keeps.of_below HB1.out)
      have k0 := HKp1.out _ _ _ HC.out.1
      have k1 := HKp1.out _ _ _ HC.out.2.1
      have k2 := HKp1.out _ _ _ HC.out.2.2.1
      have k3 := HKp1.out _ _ _ HC.out.2.2.2
      obtain ⟨n1, hn1⟩ : ∃ n1, q + 1 + sy.length = n1 := ⟨_, rfl⟩
      rw [hn1] at H2 HI hz1 hz2 hz3 hqb HEND ⊢
      clear hn1
      go_wp2_with fail
      refine (H2.out w1 HB1.out).mono ?_
      rintro e w2 ⟨rfl, hb2⟩
      have HB2 := Lib.hid (HB1.out.trans (hb2.mono HB1.out.size))
      clear hb2 k0 k1 k2 k3
      have HKp2 := Lib.hid (Keeps.of_below HB2.out)
      have k0 := HKp2.out _ _ _ HC.out.1
      have k1 := HKp2.out _ _ _ HC.out.2.1
      have k2 := HKp2.out _ _ _ HC.out.2.2.1
      have k3 := HKp2.out _ _ _ HC.out.2.2.2
      obtain ⟨n2, hn2⟩ : ∃ n2, n1 + na.length = n2 := ⟨_, rfl⟩
      rw [hn2] at HI hz2 hz3 hqb HEND ⊢
      clear hn2
      go_wp2_with fail
      refine (HI.out w2 HB2.out).mono ?_
      rintro e w3 ⟨rfl, hb3⟩
      have HB3 := Lib.hid (HB2.out.trans (hb3.mono HB2.out.size))
      clear hb3 k0 k1 k2 k3
      go_wp2_with fail
      go_roundw
      case rel => exact ⟨j + 1, hlt, by rw [HEND.out]; go_num, by go_num, HB3.out⟩
      case measure => simp [intOf]; omega
    · obtain rfl : j = l.length := by omega
      rw [List.take_length]
      go_wp2_with fail
      go_ret
      exact ⟨rfl, HB.out⟩
theorem hs_any : ∀ x : Sh, HsAt x.su := Sh.ind fun _ _ _ su ih => hs_step su ih

set_option maxRecDepth 100000 in
set_option maxHeartbeats 1000000 in
/-- laws.heldShape. -/
theorem heldShape_any (w : World) (k : Int) (sy na : Nat) (su : List Sh) (v : Value) (q : Nat) (h : IsSh w (.mk k (marksB q sy) (marksB (q + sy) na) (Sh.markeds su (q + sy + na))) v) (hq : q + sy + na + Sh.mcs su ≤ 1099511627776) :
    Calls Tryd.prog 35 #[v, .int .i64 q] w fun e w' => e = .returned (.int .i64 ((q + sy + na + Sh.mcs su : Nat) : Int)) ∧ Below w.heap.size w w' := by
  obtain ⟨vs, vn, vp, rfl, _, hs1, hs2, hs3⟩ := h.parts
  obtain ⟨a1, e1, z1, rfl⟩ := hs1.slice
  obtain ⟨a2, e2, z2, rfl⟩ := hs2.slice
  obtain ⟨a3, e3, z3, rfl⟩ : ∃ a e z, vp = Value.slice a e z := by obtain ⟨a, c, h, _⟩ := hs3; exact ⟨_, _, _, h⟩
  have HB := Lib.hid (below_alloc w (.cells #[.int .i64 k, .slice a1 e1 z1, .slice a2 e2 z2, .slice a3 e3 z3] 31))
  have HN := Lib.hid (Go.Deep.blk_alloc_new w (.cells #[.int .i64 k, .slice a1 e1 z1, .slice a2 e2 z2, .slice a3 e3 z3] 31))
  have H1 := Lib.hid (fun (w' : World) (hb : Below w.heap.size w w') => heldStrs_any w' _ sy q (hs1.keep (Keeps.of_below hb)) (by omega))
  have H2 := Lib.hid (fun (w' : World) (hb : Below w.heap.size w w') => heldStrs_any w' _ na (q + sy) (hs2.keep (Keeps.of_below hb)) (by omega))
  have H3 := Lib.hid (fun (w' : World) (hb : Below w.heap.size w w') => hs_step su (fun x _ => hs_any x) w' _ (q + sy + na) (hs3.keep (Keeps.of_below hb)) hq)
  have hz1 : 0 ≤ ((q + sy : Nat) : Int) := by omega
  have hz2 : 0 ≤ ((q + sy + na : Nat) : Int) := by omega
  have hz3 : 0 ≤ ((q + sy + na + Sh.mcs su : Nat) : Int) := by omega
  clear h hs1 hs2 hs3
  go_enter Tryd.func35, Tryd.ntmps35
  go_wp2_with fail
  refine (H1.out _ HB.out).mono ?_
  rintro e w1 ⟨rfl, hb1⟩
  have N1 := Lib.hid (blk_below HN.out hb1 (by simp))
  have HB1 := Lib.hid (HB.out.trans (hb1.mono (by simp)))
  clear hb1
  obtain ⟨r0, r1, r2, r3, _, _, _, _, rz⟩ := blk4 N1.out
  obtain ⟨n1, hn1⟩ : ∃ n1, q + sy = n1 := ⟨_, rfl⟩
  rw [hn1] at H2 H3 hz1 hz2 hz3 hq ⊢
  have HN1 := Lib.hid hn1
  clear hn1
  go_wp2_with fail
  refine (H2.out _ HB1.out).mono ?_
  rintro e w2 ⟨rfl, hb2⟩
  have N2 := Lib.hid (blk_below N1.out hb2 rz)
  have HB2 := Lib.hid (HB1.out.trans (hb2.mono HB1.out.size))
  clear hb2 r0 r1 r2 r3 rz
  obtain ⟨r0, r1, r2, r3, _, _, _, _, rz⟩ := blk4 N2.out
  obtain ⟨n2, hn2⟩ : ∃ n2, n1 + na = n2 := ⟨_, rfl⟩
  rw [hn2] at H3 hz2 hz3 hq ⊢
  have HN2 := Lib.hid hn2
  clear hn2
  go_wp2_with fail
  refine (H3.out _ HB2.out).mono ?_
  rintro e w3 ⟨rfl, hb3⟩
  have HB3 := Lib.hid (HB2.out.trans (hb3.mono HB2.out.size))
  clear hb3
  go_wp2_with fail
  go_ret
  have e1 := HN1.out
  have e2 := HN2.out
  exact ⟨ret_int (by omega), HB3.out⟩
end Go.Proofs.YtfdhmkmeffgkgaaDoor
