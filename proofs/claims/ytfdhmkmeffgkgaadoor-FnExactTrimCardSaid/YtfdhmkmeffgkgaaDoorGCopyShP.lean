/- Plain: a row of Shapes that grows. -/
import Derived.Test.YtfdhmkmeffgkgaaDoorGToW
import Derived.Test.YtfdhmkmeffgkgaaDoorGMarkTW
import Derived.Test.YtfdhmkmeffgkgaaDoorGPartB
import Derived.Test.YtfdhmkmeffgkgaaDoorGAtP
import Derived.Deep.RegionLaw
namespace Go.Proofs.YtfdhmkmeffgkgaaDoor
open Go.RowKit

set_option maxRecDepth 100000 in
/-- append(row, x), x a Shape in a new block: where it goes on. -/
theorem step_shp {ops : Array Oper} {o : Oper} {a : Act} {K : Act → World → Prop} {Q : Exit → Act → World → Prop} {E : Prop} (W : World) (hgd : o.guard = none) (s x : Operand)
    (ho : o.op = .call { callee := .builtin .append, args := #[s, x], argTypes := #[29, 29] })
    (B : Nat) (p : Option Addr) (n cap : Nat) (xs : List Value) (k : Int) (p1 : Option Addr) (n1 m1 : Nat) (p2 : Option Addr) (n2 m2 : Nat) (p3 : Option Addr) (n3 m3 : Nat) (hs : a.eval s = .slice p n cap) (hown : W.ownsRow B 31 4 (.slice p n cap) n xs) (hx : a.eval x = .slice (some ⟨W.heap.size, 0, none⟩) 1 1)
    (hn : n ≤ 4000000) (hB : B ≤ W.heap.size)
    (h : ∀ p' cap' w', w'.ownsRow B 31 4 (.slice p' (n + 1) cap') (n + 1) (xs ++ [.int .i64 k, .slice p1 n1 m1, .slice p2 n2 m2, .slice p3 n3 m3]) → Only (blkOf (.slice p n cap)) W w' → (∀ q ∈ blkOf (.slice p' (n + 1) cap'), q ∈ blkOf (.slice p n cap) ∨ W.heap.size ≤ q) → K (a.put o.dst (.slice p' (n + 1) cap')) w') :
    if Region.wanted o (yielded ops a.tmps) = true then Oper.wp Tryd.prog o a (W.alloc (.cells #[.int .i64 k, .slice p1 n1 m1, .slice p2 n2 m2, .slice p3 n3 m3] 31)) K Q else E := by
  have hw : Region.wanted o (yielded ops a.tmps) = true := by simp [Region.wanted, hgd]
  rw [if_pos hw]
  obtain ⟨i0, hi, hz0, hz1, hz2⟩ := info_parts info_shape
  have hnew := Go.Deep.blk_alloc_new W (.cells #[.int .i64 k, .slice p1 n1 m1, .slice p2 n2 m2, .slice p3 n3 m3] 31)
  have hba := below_alloc W (.cells #[.int .i64 k, .slice p1 n1 m1, .slice p2 n2 m2, .slice p3 n3 m3] 31)
  have hown' : (W.alloc (.cells #[.int .i64 k, .slice p1 n1 m1, .slice p2 n2 m2, .slice p3 n3 m3] 31)).ownsRow B 31 4 (.slice p n cap) n xs := own_block hown fun g hg => hba.block g (blkOf_own hown g hg).2
  refine wp_append_own_at s x _ ho B 31 i0 _ 4 80 Tryd.underlying29 hi hz0 hz1 hz2 rfl (by decide) _ n xs hs hown' ⟨W.heap.size, 0, none⟩ 1 1 [.int .i64 k, .slice p1 n1 m1, .slice p2 n2 m2, .slice p3 n3 m3] hx rfl ?_ ?_ (by unfold maxLen; omega) (by omega) (by simp; omega) ?_
  · intro j u hj
    rw [show (⟨W.heap.size, 0, none⟩ : Addr).add j = ⟨W.heap.size, 0 + j, none⟩ from by unfold Addr.add; split <;> simp_all, Nat.zero_add]
    have : (W.alloc (.cells #[.int .i64 k, .slice p1 n1 m1, .slice p2 n2 m2, .slice p3 n3 m3] 31)).cell? ⟨W.heap.size, j, none⟩ = [Value.int .i64 k, .slice p1 n1 m1, .slice p2 n2 m2, .slice p3 n3 m3][j]? := by
      unfold World.cell?
      rw [hnew]
      simp
    rw [this, hj]
  · intro u hu
    simp only [List.mem_cons, List.not_mem_nil, or_false] at hu
    rcases hu with rfl | rfl | rfl | rfl <;> rfl
  · intro v' w' hv hg hat
    obtain ⟨p', cap', rfl⟩ := own_slice' hv
    refine h p' cap' w' hv ?_ fun q hq => ?_
    · refine ⟨hg.os, hg.tape, hg.output, Nat.le_trans hba.size hg.size, fun q hq hne => ?_⟩
      rw [hg.block q (Nat.lt_of_lt_of_le hq hba.size) fun e => hne ((ownBlock_blk hown q).1 e.symm)]
      exact hba.block q hq
    · have e := (ownBlock_blk hv q).2 hq
      rcases hat with ha | ha
      · rw [ha] at e; exact .inl ((ownBlock_blk hown q).1 e)
      · rw [ha] at e
        right
        have := Option.some.inj e
        simp at this; omega

/-- At a round's head: the row of what is copied so far, in the block gv. -/
def CpInv (W wr : World) (gv : Nat) (k : Int) (vs vn : Value) (l : List Sh) (j : Nat) (p : Option Addr) (cap : Nat) (cs : List Value) (F : List Nat) : Prop :=
  wr.heap[gv]? = some (.cells #[.int .i64 k, vs, vn, .slice p j cap] 31 (0, 0)) ∧ wr.ownsRow W.heap.size 31 4 (.slice p j cap) j cs ∧ OwnAll wr W.heap.size (l.take j) cs F ∧
    (blkOf (.slice p j cap) ++ F).Nodup ∧ Only [gv] W wr ∧ gv < W.heap.size

/-- One round: the next one is made, put behind the row, and the row put into its place. -/
theorem cp_step {W wr w1 w2 : World} {gv j cap cap' : Nat} {k : Int} {l : List Sh} {p p' p3 : Option Addr} {cs : List Value} {F F1 : List Nat} {kk : Int} {vs vn d1 d2 : Value} {n3 m3 : Nat} (h : CpInv W wr gv k vs vn l j p cap cs F) (hj : j < l.length)
    (ho1 : OwnSh w1 wr.heap.size l[j] (.agg #[.int .i64 kk, d1, d2, .slice p3 n3 m3]) F1) (hn1 : F1.Nodup) (hb1 : Below wr.heap.size wr w1)
    (ho2 : w2.ownsRow W.heap.size 31 4 (.slice p' (j + 1) cap') (j + 1) (cs ++ [.int .i64 kk, d1, d2, .slice p3 n3 m3])) (hy2 : Only (blkOf (.slice p j cap)) w1 w2) (hp2 : ∀ q ∈ blkOf (.slice p' (j + 1) cap'), q ∈ blkOf (.slice p j cap) ∨ w1.heap.size ≤ q) :
    CpInv W (w2.setCell ⟨gv, 3, none⟩ (.slice p' (j + 1) cap')) gv k vs vn l (j + 1) p' cap' (cs ++ [.int .i64 kk, d1, d2, .slice p3 n3 m3]) (F ++ F1) := by
  obtain ⟨h1, h2, h3, h4, h5, h6⟩ := h
  have hgw : gv < wr.heap.size := (Array.getElem?_eq_some_iff.1 h1).1
  have lr := blkOf_own h2
  have lF := h3.lt
  have l1 := OwnSh.blocks _ _ _ ho1
  have l2 := blkOf_own ho2
  have d4 := (List.nodup_append.1 h4).2.2
  have g2 : w2.heap[gv]? = some (.cells #[.int .i64 k, vs, vn, .slice p j cap] 31 (0, 0)) := by
    rw [hy2.block gv (Nat.lt_of_lt_of_le hgw hb1.size) fun hx => by have := lr gv hx; omega, hb1.block gv hgw]; exact h1
  have e : ∀ q, q ≠ gv → (w2.setCell ⟨gv, 3, none⟩ (.slice p' (j + 1) cap')).heap[q]? = w2.heap[q]? := fun q hq => Below.heap_setCell _ _ _ _ hq
  refine ⟨by rw [Go.heap_setCell_same w2 gv 3 _ _ _ g2]; rfl, own_block ho2 fun q hq => e q (by have := l2 q hq; omega), ?_, ?_, ?_, h6⟩
  · rw [List.take_succ_eq_append_getElem hj]
    have a3 : OwnAll w2 W.heap.size (l.take j) cs F := h3.move (Nat.le_refl _) fun q hq => by
      rw [hy2.block q (Nat.lt_of_lt_of_le (lF q hq).2 hb1.size) fun hx => d4 q hx q hq rfl, hb1.block q (lF q hq).2]
    have a1 : OwnSh w2 W.heap.size l[j] (.agg #[.int .i64 kk, d1, d2, .slice p3 n3 m3]) F1 := OwnSh.move (by have := h5.size; omega) _ _ _ (fun q hq => hy2.block q (l1 q hq).2 fun hx => by have := lr q hx; have := l1 q hq; omega) ho1
    exact (OwnAll.snoc a3 a1).move (Nat.le_refl _) fun q hq => e q (by
      rcases List.mem_append.1 hq with hq | hq
      · have := lF q hq; omega
      · have := l1 q hq; omega)
  · rw [List.nodup_append, List.nodup_append]
    have hF := (List.nodup_append.1 h4).2.1
    refine ⟨?_, ⟨hF, hn1, fun a ha b hb => by have := lF a ha; have := l1 b hb; omega⟩, fun a ha b hb => ?_⟩
    · cases p' <;> simp [blkOf]
    · rcases hp2 a ha with hx | hx
      · rcases List.mem_append.1 hb with hb | hb
        · exact d4 a hx b hb
        · have := lr a hx; have := l1 b hb; omega
      · rcases List.mem_append.1 hb with hb | hb
        · have := lF b hb; have := hb1.size; omega
        · have := l1 b hb; omega
  · refine Only.set ?_ (by simp) _ _
    refine ⟨hy2.os.trans (hb1.os.trans h5.os), hy2.tape.trans (hb1.tape.trans h5.tape), hy2.output.trans (hb1.output.trans h5.output), Nat.le_trans h5.size (Nat.le_trans hb1.size hy2.size), fun q hq hne => ?_⟩
    have hqw : q < wr.heap.size := Nat.lt_of_lt_of_le hq h5.size
    rw [hy2.block q (Nat.lt_of_lt_of_le hqw hb1.size) fun hx => by have := lr q hx; omega, hb1.block q hqw, h5.block q hq hne]
end Go.Proofs.YtfdhmkmeffgkgaaDoor
