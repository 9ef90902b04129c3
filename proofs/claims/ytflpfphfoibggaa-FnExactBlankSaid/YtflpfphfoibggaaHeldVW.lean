/- Walks: laws.heldValS, laws.heldVal: the marks are there. -/
import Derived.Test.YtflpfphfoibggaaMarkVW
namespace Go.Proofs.Ytflpfphfoibggaa
open Go.RowKit

theorem markeds_at : ∀ (l : List Va) (j k : Nat) (h : j < l.length), (Va.markeds l k)[j]'(by rw [markeds_len]; exact h) = Va.marked l[j] (k + Va.mcs (l.take j))
  | [], _, _, h => by cases h
  | x :: l, 0, k, _ => by simp [Va.markeds, Va.mcs]
  | x :: l, j + 1, k, h => by
    have := markeds_at l j (k + x.mc) (by simpa using h)
    simp only [Va.markeds, List.take_succ_cons, Va.mcs, List.getElem_cons_succ] at this ⊢
    rw [this, Nat.add_assoc]

/-- heldValS's contract at one list. -/
def HvAt (l : List Va) : Prop := ∀ (w : World) (v : Value) (k : Nat), IsVas w v (Va.markeds l k) → k + Va.mcs l ≤ 1099511627776 →
  Calls Try.prog 54 #[v, .int .i64 k] w fun e w' => e = .returned (.int .i64 ((k + Va.mcs l : Nat) : Int)) ∧ Below w.heap.size w w'

set_option maxRecDepth 100000 in
set_option maxHeartbeats 2000000 in
theorem hv_step (l : List Va) (ih : ∀ x ∈ l, HvAt x.it) : HvAt l := by
  intro w v k h hk
  obtain ⟨a, cap, rfl, h3, h4, h6⟩ := h
  rw [markeds_len] at h3
  have HE := Lib.hid (markeds_len l k)
  rw [markeds_len]
  have H6 := Lib.hid h6
  have IH := Lib.hid ih
  have HK := Lib.hid hk
  have HTL := Lib.hid (mcs_take_le l)
  clear h6 ih hk
  go_enter Try.func54, Try.ntmps54
  go_wp2_with fail
  go_loopw [1, 5] (fun a i wr => ∃ j : Nat, j ≤ l.length ∧ a = .int .i64 ((k + Va.mcs (l.take j) : Nat) : Int) ∧ i = .int .i64 j ∧ Hid (Below w.heap.size w wr)) (fun _ i _ => l.length - (intOf i).toNat)
  case atStart => exact ⟨0, Nat.zero_le _, by simp [Va.mcs], rfl, Below.refl _ _⟩
  case round =>
    obtain ⟨j, hj, rfl, rfl, HB⟩ := hrel
    by_cases hlt : j < l.length
    · obtain ⟨q, hq⟩ : ∃ q, q = k + Va.mcs (l.take j) := ⟨_, rfl⟩
      have HQ := Lib.hid hq
      have HQ2 : Hid (q + l[j].mc ≤ 1099511627776) := by show _ ≤ _; rw [hq]; have h1 := mcs_take l j hlt; have h2 := HTL.out (j + 1); have h3 := HK.out; omega
      obtain ⟨b, off, rfl, c0, c1, c2, c3, g0, g1, g2, g3, g4⟩ := IsVas.at H6.out (k := j) (by rw [HE.out]; exact hlt)
      rw [markeds_at l j k hlt, ← hq] at g4
      rw [← hq]
      obtain ⟨x, hxe⟩ : ∃ x, x = l[j] := ⟨_, rfl⟩
      rw [← hxe] at g4 HQ2
      cases x with | mk kx nx tx itx =>
      simp only [Va.marked] at g4
      obtain ⟨vp, hv, _, _, _, hit⟩ := g4.parts
      simp only [Value.agg.injEq, Array.mk.injEq, List.cons.injEq, and_true] at hv
      obtain ⟨rfl, rfl, rfl, rfl⟩ := hv
      have hqb : q + 3 ≤ 1099511627776 := by have := HQ2.out; simp only [Va.mc] at this; omega
      have HEND : Hid (k + Va.mcs (l.take (j + 1)) = q + 3 + Va.mcs itx) := by
        show _ = _
        have : (Va.mk kx nx tx itx).mc = 3 + Va.mcs itx := by simp only [Va.mc]
        rw [mcs_take l j hlt, ← hxe, this, hq]; omega
      have hl : l[j].it = itx := by rw [← hxe]; rfl
      have ihx := IH.out l[j] (List.getElem_mem hlt)
      rw [hl] at ihx
      have hvs := hit
      obtain ⟨a3, cap3, rfl, _⟩ := hvs
      have HI := Lib.hid (fun (w' : World) (hb : Below w.heap.size w w') => ihx w' _ (q + 3) (hit.keep (Keeps.of_below hb)) (by have := HQ2.out; simp only [Va.mc] at this; omega))
      have HC := Lib.hid (And.intro g0 (And.intro g1 (And.intro g2 g3)))
      have HKp := Lib.hid (Keeps.of_below HB.out)
      have k0 := HKp.out _ _ _ g0
      have k1 := HKp.out _ _ _ g1
      have k2 := HKp.out _ _ _ g2
      have k3 := HKp.out _ _ _ g3
      have hbz : b < wr.heap.size := World.block_lt_of_cell? wr ⟨b, off + j * 4, none⟩ k0
      obtain ⟨mt, hmt⟩ : ∃ mt, mt = mkT (q + 2) := ⟨_, rfl⟩
      have hmx := markText_any (q + 2) (by omega)
      rw [← hmt] at k2 HC hmx
      have HM := Lib.hid hmx
      clear g0 g1 g2 g3 g4 hit ihx hl hmx hmt hq hxe
      go_wp2_with fail
      rw [show ((q : Int) + 1 + 1) = ((q + 2 : Nat) : Int) by omega]
      go_region_with (go_at_call 65; refine (HM.out _).mono ?_; rintro e w1 ⟨rfl, hb1⟩; have HB1 := Lib.hid (HB.out.drew.trans (hb1.mono HB.out.size)); have s0 := Keeps.of_below HB1.out _ _ _ HC.out.1; have s1 := Keeps.of_below HB1.out _ _ _ HC.out.2.1; have s2 := Keeps.of_below HB1.out _ _ _ HC.out.2.2.1; have s3 := Keeps.of_below HB1.out _ _ _ HC.out.2.2.2; clear hb1)
      all_goals
        have hz : 0 ≤ ((q + 3 + Va.mcs itx : Nat) : Int) := by omega
        go_wp2_with fail
        rw [show ((q : Int) + 2 + 1) = ((q + 3 : Nat) : Int) by omega]
        refine (HI.out _ HB1.out).mono ?_
        rintro e w3 ⟨rfl, hb3⟩
        have HB3 := Lib.hid (HB1.out.trans (hb3.mono HB1.out.size))
        clear hb3 s0 s1 s2 s3 k0 k1 k2 k3
        go_wp2_with fail
        go_roundw
        case rel => exact ⟨j + 1, hlt, by rw [HEND.out, Int.natCast_add, Int.natCast_add]; rfl, by go_num, HB3.out⟩
        case measure => simp [intOf]; omega
    · obtain rfl : j = l.length := by omega
      rw [List.take_length]
      go_wp2_with fail
      go_ret
      exact ⟨rfl, HB.out⟩
theorem hv_any : ∀ x : Va, HvAt x.it := Va.ind fun _ _ _ it ih => hv_step it ih

/-- laws.heldVal. -/
theorem heldVal_any (w : World) (k n : Int) (t : ByteArray) (it : List Va) (v : Value) (q : Nat) (h : IsVa w (.mk k n t (Va.markeds it q)) v) (hq : q + Va.mcs it ≤ 1099511627776) :
    Calls Try.prog 27 #[v, .int .i64 q] w fun e w' => e = .returned (.int .i64 ((q + Va.mcs it : Nat) : Int)) ∧ Below w.heap.size w w' := by
  obtain ⟨p3, m3, rfl, _, _, _, h3⟩ := h.open
  have HB := Lib.hid (below_alloc w (.cells #[.int .i64 k, .int .i64 n, .string t, .slice p3 (Va.markeds it q).length m3] 43))
  have HC := Lib.hid (hv_step it (fun x _ => hv_any x) _ _ q (h3.keep (Keeps.of_below HB.out)) hq)
  have hz : 0 ≤ ((q + Va.mcs it : Nat) : Int) := by omega
  clear h h3
  go_enter Try.func27, Try.ntmps27
  go_wp2_with fail
  refine HC.out.mono ?_
  rintro e w1 ⟨rfl, hb1⟩
  have HB1 := Lib.hid (HB.out.trans (hb1.mono HB.out.size))
  clear hb1
  go_wp2_with fail
  go_ret
  exact ⟨rfl, HB1.out⟩
end Go.Proofs.Ytflpfphfoibggaa
