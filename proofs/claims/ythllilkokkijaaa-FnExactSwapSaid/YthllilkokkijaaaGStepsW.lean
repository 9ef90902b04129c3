/- Walks: impl.stepsInto, and what it hands back: the steps into a shape. -/
import Derived.RangeFuncNested
import Derived.RangeFuncBound
import Derived.RangeFuncCalls
import Derived.RangeFuncLeaves
import Derived.RangeFuncBox
import Derived.Shelf.Abstract
import Derived.Shelf.RegionOpen
import Derived.WalkKit
import Derived.OwnWalkIn
import Derived.TacticsInMore
import Derived.LoopNIn
import Derived.LoopIn
import Derived.Test.YthllilkokkijaaaGPartP
import Derived.Test.YthllilkokkijaaaGPutSP
namespace Go.Proofs.Ythllilkokkijaaa
open Go.RowKit Go.Shelf
attribute [local go_sem] Oper.semAt_some

/-- The step to a part. -/
def stepOf (t : Sh) (i : Nat) : ByteArray := if t.kd = 7 then t.na.getD i ⟨#[]⟩ else starS
/-- What the iterator wants kept: what lies below n₀, and its box. -/
def KpB (n₀ Bn : Nat) (W W' : World) : Prop := Below n₀ W W' ∧ W'.heap[Bn]? = W.heap[Bn]?
theorem KpB.trans {n₀ Bn : Nat} {A B C : World} (h : KpB n₀ Bn A B) (k : KpB n₀ Bn B C) : KpB n₀ Bn A C := ⟨h.1.trans k.1, k.2.trans h.2⟩
/-- The first k of m places. -/
def ups (m k : Nat) : List (Fin m) := (List.finRange m).take k
theorem ups_succ {m k : Nat} (h : k < m) : ups m (k + 1) = ups m k ++ [⟨k, h⟩] := by
  unfold ups
  rw [List.take_succ_eq_append_getElem (by simpa using h)]
  simp
theorem ups_len {m k : Nat} (h : k ≤ m) : (ups m k).length = k := by unfold ups; simp; omega
theorem ups_all (m : Nat) : ups m m = List.finRange m := by unfold ups; exact List.take_of_length_le (by simp)

theorem stepsInto_any (k : Int) (p1 p2 p3 : Option Addr) (n1 n2 n3 m1 m2 m3 : Nat) (w : World) :
    Calls Try.prog 52 #[.agg #[.int .i64 k, .slice p1 n1 m1, .slice p2 n2 m2, .slice p3 n3 m3]] w fun e w' =>
      e = .returned (.func (.func 60) #[] #[.pointer (some ⟨w.heap.size, 0, none⟩)]) ∧ w' = w.alloc (.cells #[.int .i64 k, .slice p1 n1 m1, .slice p2 n2 m2, .slice p3 n3 m3] 30) := by
  go_enter Try.func52, Try.ntmps52
  go_wp2_with fail
  go_ret
  exact ⟨rfl, rfl⟩

set_option maxRecDepth 100000 in
set_option maxHeartbeats 2000000 in
theorem steps_in (l Bn n₀ : Nat) (t : Sh) (p1 p2 p3 : Option Addr) (n1 m1 m2 m3 : Nat) (hn7 : t.kd = 7 → t.na.length = t.su.length) (hm : t.su.length ≤ 6) (J Jx : List (Fin t.su.length) → World → Prop) (n : Nat) (hn : 1 ≤ n)
    (hY : ∀ pre (x : Fin t.su.length) W, J pre W → pre.length < t.su.length → YieldAt Fence.wide (n - 1) Try.prog l #[.int .i64 x.val, .string (stepOf t x.val)] W fun e W' =>
      (e = .returned (.bool true) ∧ J (pre ++ [x]) W' ∧ KpB n₀ Bn W W') ∨ (e = .returned (.bool false) ∧ Jx (pre ++ [x]) W'))
    (W : World) (hB : W.heap[Bn]? = some (.cells #[.int .i64 t.kd, .slice p1 n1 m1, .slice p2 t.na.length m2, .slice p3 t.su.length m3] 30 (0, 0)))
    (hna : t.kd = 7 → ∀ W', Below n₀ W W' → IsStrs W' (.slice p2 t.na.length m2) t.na) (h0 : J [] W) :
    CallsIn Fence.wide n Try.prog 60 #[.func (.yield l) #[] #[], .pointer (some ⟨Bn, 0, none⟩)] W fun e W' => (∃ v, e = .returned v) ∧
      ((∃ ys, ys = List.finRange t.su.length ∧ J ys W') ∨ (∃ pre, (∃ k, k ≤ t.su.length ∧ pre = ups t.su.length k) ∧ Jx pre W')) := by
  refine callsIn_of_wp Try.func60 rfl trivial ?_ rfl
  simp only [Try.ntmps60, List.size_toArray, List.length_cons, List.length_nil, Nat.reduceAdd, Nat.reduceSub, Array.replicate_succ, Array.replicate_zero, List.push_toArray, List.append_toArray, List.nil_append, List.cons_append]
  have HB := Lib.hid hB
  have HNA := Lib.hid hna
  obtain ⟨a0, a1, a2, a3, _, _, _, _, az⟩ := blk4 HB.out
  have HY := Lib.hid hY
  clear hna hB hY
  gi_wp2
  clear a0 a1 a2 a3 az
  gi_loopw [8] (fun i wr => ∃ k : Nat, k ≤ t.su.length ∧ i = .int .i64 k ∧ Hid (J (ups t.su.length k) wr) ∧ Hid (KpB n₀ Bn W wr))
    (fun i _ => t.su.length - (intOf i).toNat)
  case atStart => exact ⟨0, Nat.zero_le _, rfl, h0, Below.refl _ _, rfl⟩
  case round =>
    obtain ⟨k, hk, rfl, HJ, HK⟩ := hrel
    obtain ⟨a0, a1, a2, a3, _, _, _, _, az⟩ := blk4 (HK.out.2.trans HB.out)
    by_cases hlt : k < t.su.length
    · have HYk := Lib.hid (HY.out (ups t.su.length k) ⟨k, hlt⟩ wr HJ.out (by rw [ups_len (by omega)]; exact hlt))
      by_cases h7 : t.kd = 7
      · have hst : stepOf t k = t.na[k]'(by have := hn7 h7; omega) := by
          unfold stepOf; rw [if_pos h7]; exact getD_at (by have := hn7 h7; omega)
        obtain ⟨b, off, hp, hc⟩ : ∃ b off, p2 = some ⟨b, off, none⟩ ∧ wr.cell? ⟨b, off + k, none⟩ = some (.string (stepOf t k)) := by
          obtain ⟨_, _, a, cap, he, _, _, h6⟩ := HNA.out h7 wr HK.out.1
          simp only [Value.slice.injEq] at he
          obtain ⟨b, off, ha, hs⟩ := IsStrs.at h6 (k := k) (by have := hn7 h7; omega)
          exact ⟨b, off, he.1.trans ha, by rw [hst]; exact hs⟩
        subst hp
        obtain ⟨st, hs⟩ : ∃ st, stepOf t k = st := ⟨_, rfl⟩
        simp only [hs] at HYk hc
        have hl7 : (k : Int) < t.na.length := by have := hn7 h7; omega
        have hl7' : k < t.na.length := by have := hn7 h7; omega
        rw [h7] at a0
        obtain ⟨fn, tmps, assign, body, hy, hR⟩ := HYk.out
        clear hst hs HYk
        gi_wp2
        refine hR.mono ?_
        rintro e W3 (⟨rfl, hJ3, hk3⟩ | ⟨rfl, hJx3⟩)
        · gi_wp2
          go_roundw
          case rel => exact ⟨k + 1, by omega, by simp, by show J _ _; rw [ups_succ hlt]; exact hJ3, HK.out.trans hk3⟩
          case measure => simp [intOf]; omega
        · gi_wp2
          refine bodyPost_ret (results_none rfl _ _ _) rfl ?_
          exact ⟨⟨_, rfl⟩, .inr ⟨_, ⟨k + 1, by omega, (ups_succ hlt).symm⟩, hJx3⟩⟩
      · have hst : stepOf t k = ⟨#[42]⟩ := by unfold stepOf; rw [if_neg h7]; rfl
        simp only [hst] at HYk
        have h7b : (t.kd == 7) = false := by simpa using h7
        obtain ⟨fn, tmps, assign, body, hy, hR⟩ := HYk.out
        clear hst HYk h7
        gi_wp2
        refine hR.mono ?_
        rintro e W3 (⟨rfl, hJ3, hk3⟩ | ⟨rfl, hJx3⟩)
        · gi_wp2
          go_roundw
          case rel => exact ⟨k + 1, by omega, by simp, by show J _ _; rw [ups_succ hlt]; exact hJ3, HK.out.trans hk3⟩
          case measure => simp [intOf]; omega
        · gi_wp2
          refine bodyPost_ret (results_none rfl _ _ _) rfl ?_
          exact ⟨⟨_, rfl⟩, .inr ⟨_, ⟨k + 1, by omega, (ups_succ hlt).symm⟩, hJx3⟩⟩
    · obtain rfl : k = t.su.length := by omega
      gi_wp2
      go_end0
      exact ⟨⟨_, rfl⟩, .inl ⟨_, (ups_all _), HJ.out⟩⟩

/-- The steps into a shape, as an iterator that stops where it is told. -/
theorem steps_stops (n : Nat) (hn : 1 ≤ n) (Bn n₀ : Nat) (t : Sh) (p1 p2 p3 : Option Addr) (n1 m1 m2 m3 : Nat) (hn7 : t.kd = 7 → t.na.length = t.su.length) (hm : t.su.length ≤ 6) (w : World) (hBn : Bn < w.heap.size) (hn₀ : n₀ ≤ w.heap.size)
    (hB : w.heap[Bn]? = some (.cells #[.int .i64 t.kd, .slice p1 n1 m1, .slice p2 t.na.length m2, .slice p3 t.su.length m3] 30 (0, 0)))
    (hna : t.kd = 7 → ∀ W', Below n₀ w W' → IsStrs W' (.slice p2 t.na.length m2) t.na) :
    SeqStopsK Fence.wide n Try.prog 60 #[.pointer (some ⟨Bn, 0, none⟩)] (fun x : Fin t.su.length => #[Value.int .i64 x.val, .string (stepOf t x.val)]) (KpB n₀ Bn) (fun ys => ys = List.finRange t.su.length) (fun pre => ∃ k, k ≤ t.su.length ∧ pre = ups t.su.length k) t.su.length w := fun l J Jx W hW _ _ hY h0 =>
  steps_in l Bn n₀ t p1 p2 p3 n1 m1 m2 m3 hn7 hm J Jx n hn hY W ((hW.block Bn hBn).trans hB) (fun h7 W' hb => hna h7 W' ((hW.mono hn₀).trans hb)) h0
end Go.Proofs.Ythllilkokkijaaa
