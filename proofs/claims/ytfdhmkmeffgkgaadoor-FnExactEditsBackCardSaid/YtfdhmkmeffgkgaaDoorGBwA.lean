/- Plain: what a path leads to. · Walks: impl.stepsInto, and what it hands back: the steps into a shape. · Walks: slices.Backward over Edits, and what it hands back. -/
import Derived.Test.YtfdhmkmeffgkgaaDoorGPathW
import Derived.Test.YtfdhmkmeffgkgaaDoorGPartB
import Derived.Test.YtfdhmkmeffgkgaaDoorGTxtP
import Derived.RangeFuncNested
import Derived.RangeFuncBound
import Derived.RangeFuncCalls
import Derived.RangeFuncLeaves
import Derived.RangeFuncBox
import Derived.Shelf.Abstract
import Derived.Shelf.RegionOpen
import Derived.WalkKit
import Derived.OwnWalkIn
import Derived.TacticsInMore
import Derived.LoopNIn
import Derived.LoopIn
import Derived.Test.YtfdhmkmeffgkgaaDoorGPutSP
import Derived.Test.YtfdhmkmeffgkgaaDoorGToE
namespace Go.Proofs.YtfdhmkmeffgkgaaDoor
open Go.RowKit

/-- Which part a step leads to; -1: none. -/
def stepR (t : Sh) (s : ByteArray) : Int := if s = starS then (if t.kd = 5 ∨ t.kd = 6 then 0 else -1) else posOf t.na s
/-- What a step leads to. -/
def childR (t : Sh) (s : ByteArray) : Option Sh := if 0 ≤ stepR t s then t.su[(stepR t s).toNat]? else none
/-- What a path leads to. -/
def partP : List ByteArray → Sh → Option Sh
  | [], t => some t
  | s :: p, t => match childR t s with | none => none | some u => partP p u
theorem partP_append : ∀ (p q : List ByteArray) (t : Sh), partP (p ++ q) t = (partP p t).bind (partP q)
  | [], q, t => rfl
  | s :: p, q, t => by
    simp only [List.cons_append, partP]
    cases childR t s with
    | none => rfl
    | some u => exact partP_append p q u
theorem partP_snoc (p : List ByteArray) (s : ByteArray) (t : Sh) : partP (p ++ [s]) t = (partP p t).bind fun u => childR u s := by
  rw [partP_append]
  cases partP p t with
  | none => rfl
  | some u =>
    simp only [Option.bind_some, partP]
    cases childR u s <;> rfl
theorem partP_none {p : List ByteArray} {k : Nat} {t : Sh} (h : partP (p.take k) t = none) : partP p t = none := by
  have := partP_append (p.take k) (p.drop k) t
  rw [List.take_append_drop, h] at this
  exact this
theorem posOf_lt : ∀ (l : List ByteArray) (t : ByteArray), posOf l t < l.length
  | [], _ => by simp [posOf]
  | s :: l, t => by
    have := posOf_lt l t
    unfold posOf; split
    · simp only [List.length_cons]; omega
    · split <;> simp only [List.length_cons] <;> omega
/-- A step that leads somewhere leads to a part. -/
theorem child_at {d : Nat} {t : Sh} {s : ByteArray} (hp : partOk d t = true) (h0 : 0 ≤ stepR t s) : ∃ h : (stepR t s).toNat < t.su.length, childR t s = some t.su[(stepR t s).toNat] ∧ ∃ d', d' < d ∧ partOk d' t.su[(stepR t s).toNat] = true := by
  cases d with
  | zero => cases t; simp [partOk] at hp
  | succ d =>
    have key : (stepR t s).toNat < t.su.length := by
      cases t with | mk k sy na su =>
      simp only [partOk, Bool.and_eq_true] at hp
      simp only [Sh.su]
      have e : stepR (.mk k sy na su) s = (if s = starS then (if k = 5 ∨ k = 6 then 0 else -1) else posOf na s) := rfl
      rw [e] at h0 ⊢
      by_cases hs : s = starS
      · rw [if_pos hs] at h0 ⊢
        by_cases hk : k = 5 ∨ k = 6
        · rw [if_pos hk]
          rcases sound_cases hp.1 with ⟨hk', _⟩ | ⟨hk', _⟩ | ⟨_, _, _, hn⟩ | ⟨hk', _⟩
          · omega
          · omega
          · rw [hn]; decide
          · omega
        · rw [if_neg hk] at h0; omega
      · rw [if_neg hs] at h0 ⊢
        have hlt := posOf_lt na s
        rcases sound_cases hp.1 with ⟨_, _, rfl, _⟩ | ⟨_, _, _, _, rfl, _⟩ | ⟨_, _, rfl, _⟩ | ⟨_, _, _, _, hn⟩
        · simp at hlt; omega
        · simp at hlt; omega
        · simp at hlt; omega
        · omega
    refine ⟨key, ?_, d, Nat.lt_succ_self _, ?_⟩
    · unfold childR; rw [if_pos h0, List.getElem?_eq_getElem key]
    · cases t with | mk k sy na su =>
      simp only [partOk, Bool.and_eq_true] at hp
      exact List.all_eq_true.1 hp.2 _ (List.getElem_mem _)
theorem child_no {t : Sh} {s : ByteArray} (h0 : stepR t s < 0) : childR t s = none := by unfold childR; rw [if_neg (by omega)]
/-- What a path leads to is right. -/
theorem part_ok : ∀ (p : List ByteArray) (d : Nat) (t u : Sh), partOk d t = true → partP p t = some u → ∃ d', d' ≤ d ∧ partOk d' u = true
  | [], d, t, u, hp, h => by cases h; exact ⟨d, Nat.le_refl _, hp⟩
  | s :: p, d, t, u, hp, h => by
    simp only [partP] at h
    by_cases h0 : 0 ≤ stepR t s
    · obtain ⟨_, hc, d1, hd, hd1⟩ := child_at hp h0
      rw [hc] at h
      obtain ⟨d2, h2, h3⟩ := part_ok p d1 _ u hd1 h
      exact ⟨d2, by omega, h3⟩
    · rw [child_no (by omega)] at h; cases h
theorem part_mono : ∀ (d d' : Nat) (t : Sh), d ≤ d' → partOk d t = true → partOk d' t = true
  | 0, _, t, _, h => by cases t; simp [partOk] at h
  | d + 1, 0, _, h, _ => by omega
  | d + 1, d' + 1, .mk k sy na su, hd, h => by
    simp only [partOk, Bool.and_eq_true] at h ⊢
    exact ⟨h.1, List.all_eq_true.2 fun x hx => part_mono d d' x (by omega) (List.all_eq_true.1 h.2 x hx)⟩
/-- What PartAt tells. -/
def zsh : Sh := .mk 0 [] [] []
def partR (t : Sh) (p : List ByteArray) : Sh × Int :=
  if 400 < p.length then (zsh, 2) else if (rightB t && pathOk p) = false then (zsh, 1) else match partP p t with | none => (zsh, 6) | some u => (u, 0)
end Go.Proofs.YtfdhmkmeffgkgaaDoor
namespace Go.Proofs.YtfdhmkmeffgkgaaDoor
open Go.RowKit Go.Shelf
attribute [local go_sem] Oper.semAt_some

/-- The step to a part. -/
def stepOf (t : Sh) (i : Nat) : ByteArray := if t.kd = 7 then t.na.getD i ⟨#[]⟩ else starS
/-- What the iterator wants kept: what lies below n₀, and its box. -/
def KpB (n₀ Bn : Nat) (W W' : World) : Prop := Below n₀ W W' ∧ W'.heap[Bn]? = W.heap[Bn]?
theorem KpB.trans {n₀ Bn : Nat} {A B C : World} (h : KpB n₀ Bn A B) (k : KpB n₀ Bn B C) : KpB n₀ Bn A C := ⟨h.1.trans k.1, k.2.trans h.2⟩
/-- The first k of m places. -/
def ups (m k : Nat) : List (Fin m) := (List.finRange m).take k
theorem ups_succ {m k : Nat} (h : k < m) : ups m (k + 1) = ups m k ++ [⟨k, h⟩] := by
  unfold ups
  rw [List.take_succ_eq_append_getElem (by simpa using h)]
  simp
theorem ups_len {m k : Nat} (h : k ≤ m) : (ups m k).length = k := by unfold ups; simp; omega
theorem ups_all (m : Nat) : ups m m = List.finRange m := by unfold ups; exact List.take_of_length_le (by simp)

end Go.Proofs.YtfdhmkmeffgkgaaDoor
namespace Go.Proofs.YtfdhmkmeffgkgaaDoor
open Go.RowKit Go.Shelf
attribute [local go_sem] Oper.semAt_some

theorem backward_any (a : Option Addr) (n cap : Nat) (w : World) :
    Calls Tryd.prog 36 #[.slice a n cap] w fun e w' =>
      e = .returned (.func (.func 60) #[] #[.pointer (some ⟨w.heap.size, 0, none⟩)]) ∧ w' = w.alloc (.cells #[.slice a n cap] 41) := by
  go_enter Tryd.func36, Tryd.ntmps36
  go_wp2_with fail
  go_ret
  exact ⟨rfl, rfl⟩

theorem blk1 {w : World} {b : Nat} {T : TypeId} {c : Value} (h : w.heap[b]? = some (.cells #[c] T (0, 0))) : w.cell? ⟨b, 0, none⟩ = some c ∧ b < w.heap.size :=
  ⟨by simp [World.cell?, h], (Array.getElem?_eq_some_iff.1 h).1⟩

set_option maxRecDepth 100000 in
set_option maxHeartbeats 4000000 in
theorem bw_in (l Bn n₀ m cap b off : Nat) (a : Option Addr) (ha : 0 < m → a = some ⟨b, off, none⟩) (c0 : Nat → Value) (c1 : Nat → Value) (c2 : Nat → Value) (c3 : Nat → Value) (c4 : Nat → Value) (c5 : Nat → Value) (c6 : Nat → Value) (c7 : Nat → Value) (c8 : Nat → Value) (c9 : Nat → Value) (c10 : Nat → Value) (c11 : Nat → Value) (c12 : Nat → Value) (hm : m ≤ 400) (J Jx : List (Fin m) → World → Prop) (n : Nat) (hn : 1 ≤ n)
    (hY : ∀ pre (x : Fin m) W, J pre W → pre.length < m → YieldAt Fence.wide (n - 1) Tryd.prog l #[.int .i64 ((m - 1 - x.val : Nat) : Int), .agg #[c0 (m - 1 - x.val), c1 (m - 1 - x.val), c2 (m - 1 - x.val), c3 (m - 1 - x.val), c4 (m - 1 - x.val), c5 (m - 1 - x.val), c6 (m - 1 - x.val), c7 (m - 1 - x.val), c8 (m - 1 - x.val), c9 (m - 1 - x.val), c10 (m - 1 - x.val), c11 (m - 1 - x.val), c12 (m - 1 - x.val)]] W fun e W' =>
      (e = .returned (.bool true) ∧ J (pre ++ [x]) W' ∧ KpB n₀ Bn W W') ∨ (e = .returned (.bool false) ∧ Jx (pre ++ [x]) W'))
    (W : World) (hB : W.heap[Bn]? = some (.cells #[.slice a m cap] 41 (0, 0)))
    (hC : ∀ W', Below n₀ W W' → ∀ i, i < m → W'.cell? ⟨b, off + i * 13, none⟩ = some (c0 i) ∧ W'.cell? ⟨b, off + i * 13 + 1, none⟩ = some (c1 i) ∧ W'.cell? ⟨b, off + i * 13 + 2, none⟩ = some (c2 i) ∧ W'.cell? ⟨b, off + i * 13 + 3, none⟩ = some (c3 i) ∧ W'.cell? ⟨b, off + i * 13 + 4, none⟩ = some (c4 i) ∧ W'.cell? ⟨b, off + i * 13 + 5, none⟩ = some (c5 i) ∧ W'.cell? ⟨b, off + i * 13 + 6, none⟩ = some (c6 i) ∧ W'.cell? ⟨b, off + i * 13 + 7, none⟩ = some (c7 i) ∧ W'.cell? ⟨b, off + i * 13 + 8, none⟩ = some (c8 i) ∧ W'.cell? ⟨b, off + i * 13 + 9, none⟩ = some (c9 i) ∧ W'.cell? ⟨b, off + i * 13 + 10, none⟩ = some (c10 i) ∧ W'.cell? ⟨b, off + i * 13 + 11, none⟩ = some (c11 i) ∧ W'.cell? ⟨b, off + i * 13 + 12, none⟩ = some (c12 i)) (h0 : J [] W) :
    CallsIn Fence.wide n Tryd.prog 60 #[.func (.yield l) #[] #[], .pointer (some ⟨Bn, 0, none⟩)] W fun e W' => (∃ v, e = .returned v) ∧
      ((∃ ys, ys = List.finRange m ∧ J ys W') ∨ (∃ pre, (∃ k, k ≤ m ∧ pre = ups m k) ∧ Jx pre W')) := by
  refine callsIn_of_wp Tryd.func60 rfl trivial ?_ rfl
  simp only [Tryd.ntmps60, List.size_toArray, List.length_cons, List.length_nil, Nat.reduceAdd, Nat.reduceSub, Array.replicate_succ, Array.replicate_zero, List.push_toArray, List.append_toArray, List.nil_append, List.cons_append]
  have HB := Lib.hid hB
  have HC := Lib.hid hC
  obtain ⟨a0, az⟩ := blk1 HB.out
  have HY := Lib.hid hY
  clear hC hB hY
  gi_wp2
  clear a0 az
  gi_loopw [3] (fun i wr => ∃ (k : Nat) (z : Int), k ≤ m ∧ i = .int .i64 z ∧ z = (m : Int) - 1 - k ∧ Hid (J (ups m k) wr) ∧ Hid (KpB n₀ Bn W wr))
    (fun i _ => (intOf i + 1).toNat)
  case atStart => exact ⟨0, (m : Int) - 1, Nat.zero_le _, rfl, by omega, h0, Below.refl _ _, rfl⟩
  case round =>
    obtain ⟨k, z, hk, rfl, hz, HJ, HK⟩ := hrel
    obtain ⟨a0, az⟩ := blk1 (HK.out.2.trans HB.out)
    by_cases hlt : k < m
    · obtain rfl := ha (by omega)
      have HYk := Lib.hid (HY.out (ups m k) ⟨k, hlt⟩ wr HJ.out (by rw [ups_len (by omega)]; exact hlt))
      obtain ⟨j, hj⟩ : ∃ j, m - 1 - k = j := ⟨_, rfl⟩
      simp only [hj] at HYk
      have hz1 : z = (j : Int) := by omega
      clear hz
      subst hz1
      have hjm : j < m := by omega
      have hj1 : (j : Int) < m := by omega
      have hj0 : (0 : Int) ≤ (j : Int) := by omega
      obtain ⟨g0, g1, g2, g3, g4, g5, g6, g7, g8, g9, g10, g11, g12⟩ := HC.out wr HK.out.1 j hjm
      have HMJ : Hid (m = k + 1 + j) := by show _ = _; omega
      obtain ⟨fn, tmps, assign, body, hy, hR⟩ := HYk.out
      clear HYk hj
      gi_wp2
      refine hR.mono ?_
      rintro e W3 (⟨rfl, hJ3, hk3⟩ | ⟨rfl, hJx3⟩)
      · gi_wp2
        go_roundw
        case rel => exact ⟨k + 1, (j : Int) - 1, by omega, by go_num, by have := HMJ.out; omega, by show J _ _; rw [ups_succ hlt]; exact hJ3, HK.out.trans hk3⟩
        case measure => first | (simp [intOf]; done) | (simp [intOf]; omega)
      · gi_wp2
        refine bodyPost_ret (results_none rfl _ _ _) rfl ?_
        exact ⟨⟨_, rfl⟩, .inr ⟨_, ⟨k + 1, by omega, (ups_succ hlt).symm⟩, hJx3⟩⟩
    · obtain rfl : k = m := by omega
      have hz1 : z = -1 := by omega
      clear hz
      subst hz1
      gi_wp2
      go_end0
      exact ⟨⟨_, rfl⟩, .inl ⟨_, (ups_all _), HJ.out⟩⟩

/-- A row of Edits from its end, as an iterator that stops where it is told. -/
theorem bw_stops (n : Nat) (hn : 1 ≤ n) (Bn n₀ m cap b off : Nat) (a : Option Addr) (ha : 0 < m → a = some ⟨b, off, none⟩) (c0 : Nat → Value) (c1 : Nat → Value) (c2 : Nat → Value) (c3 : Nat → Value) (c4 : Nat → Value) (c5 : Nat → Value) (c6 : Nat → Value) (c7 : Nat → Value) (c8 : Nat → Value) (c9 : Nat → Value) (c10 : Nat → Value) (c11 : Nat → Value) (c12 : Nat → Value) (hm : m ≤ 400) (w : World) (hBn : Bn < w.heap.size) (hn₀ : n₀ ≤ w.heap.size)
    (hB : w.heap[Bn]? = some (.cells #[.slice a m cap] 41 (0, 0))) (hC : ∀ W', Below n₀ w W' → ∀ i, i < m → W'.cell? ⟨b, off + i * 13, none⟩ = some (c0 i) ∧ W'.cell? ⟨b, off + i * 13 + 1, none⟩ = some (c1 i) ∧ W'.cell? ⟨b, off + i * 13 + 2, none⟩ = some (c2 i) ∧ W'.cell? ⟨b, off + i * 13 + 3, none⟩ = some (c3 i) ∧ W'.cell? ⟨b, off + i * 13 + 4, none⟩ = some (c4 i) ∧ W'.cell? ⟨b, off + i * 13 + 5, none⟩ = some (c5 i) ∧ W'.cell? ⟨b, off + i * 13 + 6, none⟩ = some (c6 i) ∧ W'.cell? ⟨b, off + i * 13 + 7, none⟩ = some (c7 i) ∧ W'.cell? ⟨b, off + i * 13 + 8, none⟩ = some (c8 i) ∧ W'.cell? ⟨b, off + i * 13 + 9, none⟩ = some (c9 i) ∧ W'.cell? ⟨b, off + i * 13 + 10, none⟩ = some (c10 i) ∧ W'.cell? ⟨b, off + i * 13 + 11, none⟩ = some (c11 i) ∧ W'.cell? ⟨b, off + i * 13 + 12, none⟩ = some (c12 i)) :
    SeqStopsK Fence.wide n Tryd.prog 60 #[.pointer (some ⟨Bn, 0, none⟩)] (fun x : Fin m => #[Value.int .i64 ((m - 1 - x.val : Nat) : Int), .agg #[c0 (m - 1 - x.val), c1 (m - 1 - x.val), c2 (m - 1 - x.val), c3 (m - 1 - x.val), c4 (m - 1 - x.val), c5 (m - 1 - x.val), c6 (m - 1 - x.val), c7 (m - 1 - x.val), c8 (m - 1 - x.val), c9 (m - 1 - x.val), c10 (m - 1 - x.val), c11 (m - 1 - x.val), c12 (m - 1 - x.val)]]) (KpB n₀ Bn) (fun ys => ys = List.finRange m) (fun pre => ∃ k, k ≤ m ∧ pre = ups m k) m w :=
  fun l J Jx W hW _ _ hY h0 => bw_in l Bn n₀ m cap b off a ha c0 c1 c2 c3 c4 c5 c6 c7 c8 c9 c10 c11 c12 hm J Jx n hn hY W ((hW.block Bn hBn).trans hB) (fun W' hb => hC W' ((hW.mono hn₀).trans hb)) h0
end Go.Proofs.YtfdhmkmeffgkgaaDoor
