/- append(l, e): an Edit behind a row of them. · Rows of Edits of the call's own, within a range over a function; a region that draws its order in a round, with what it reads held. -/
import Derived.Test.YtfdhmkmeffgkgaaDoorGToE
import Derived.Test.YtfdhmkmeffgkgaaDoorGCopyShW
import Derived.Maps.AppendAt
import Derived.Test.YtfdhmkmeffgkgaaDoorGRoundP
import Derived.Test.YtfdhmkmeffgkgaaDoorGEdBkP
import Derived.Deep.RegionHeld3
namespace Go.Proofs.YtfdhmkmeffgkgaaDoor
open Go.RowKit

theorem OwnAllE.is {w : World} {base B : Nat} {l : List Ed} {cs : List Value} {F : List Nat} {v : Value} (h : OwnAllE w base l cs F) (hr : w.ownsRow B 33 13 v l.length cs) : IsEds w v l := by
  rcases hr.2 with ⟨rfl, h0⟩ | ⟨g, cap, cur, rfl, _, hg, hn, hc, hsz, ht⟩
  · have : l = [] := List.eq_nil_of_length_eq_zero h0
    subst this
    exact ⟨none, 0, rfl, Nat.le_refl _, Nat.zero_le _, .inl rfl⟩
  · unfold maxLen at hc
    refine ⟨_, cap, rfl, hn, by omega, .inr ⟨g, 0, rfl, fun i hi => ?_⟩⟩
    obtain ⟨c0, c1, c2, c3, c4, c5, c6, c7, c8, c9, c10, c11, c12, F1, g0, g1, g2, g3, g4, g5, g6, g7, g8, g9, g10, g11, g12, g13⟩ := h.at i hi
    have key : ∀ j v, j < 13 → cs[i * 13 + j]? = some v → w.cell? ⟨g, 0 + i * 13 + j, none⟩ = some v := fun j v hj hv => by
      have e : cur[i * 13 + j]? = some v := by
        rw [← Array.getElem?_toList]
        have e2 : (cur.toList.take (l.length * 13))[i * 13 + j]? = cur.toList[i * 13 + j]? := List.getElem?_take_of_lt (by omega)
        rw [← e2, ht, hv]
      simp [World.cell?, hg, e]
    exact ⟨c0, c1, c2, c3, c4, c5, c6, c7, c8, c9, c10, c11, c12, key 0 _ (by omega) g0, key 1 _ (by omega) g1, key 2 _ (by omega) g2, key 3 _ (by omega) g3, key 4 _ (by omega) g4, key 5 _ (by omega) g5, key 6 _ (by omega) g6, key 7 _ (by omega) g7, key 8 _ (by omega) g8, key 9 _ (by omega) g9, key 10 _ (by omega) g10, key 11 _ (by omega) g11, key 12 _ (by omega) g12, g13.is⟩

set_option maxRecDepth 100000 in
/-- .. as a step of a drawn region. -/
theorem step_ed {ops : Array Oper} {o : Oper} {a : Act} {K : Act → World → Prop} {Q : Exit → Act → World → Prop} {E : Prop} (W : World) (hgd : o.guard = none) (s x : Operand)
    (ho : o.op = .call { callee := .builtin .append, args := #[s, x], argTypes := #[41, 41] })
    (B : Nat) (p : Option Addr) (n cap : Nat) (xs : List Value) (kd : Int) (a0 : Option Addr) (a0n a0m : Nat) (pl : Int) (nm : ByteArray) (tn : ByteArray) (ks : Int) (a1 : Option Addr) (a1n a1m : Nat) (a2 : Option Addr) (a2n a2m : Nat) (a3 : Option Addr) (a3n a3m : Nat) (kw : Int) (b1 : Option Addr) (b1n b1m : Nat) (b2 : Option Addr) (b2n b2m : Nat) (b3 : Option Addr) (b3n b3m : Nat) (hs : a.eval s = .slice p n cap) (hown : W.ownsRow B 33 13 (.slice p n cap) n xs) (hx : a.eval x = .slice (some ⟨W.heap.size, 0, none⟩) 1 1)
    (hn : n ≤ 4000000) (hB : B ≤ W.heap.size)
    (h : ∀ p' cap' w', w'.ownsRow B 33 13 (.slice p' (n + 1) cap') (n + 1) (xs ++ [.int .i64 kd, .slice a0 a0n a0m, .int .i64 pl, .string nm, .string tn, .int .i64 ks, .slice a1 a1n a1m, .slice a2 a2n a2m, .slice a3 a3n a3m, .int .i64 kw, .slice b1 b1n b1m, .slice b2 b2n b2m, .slice b3 b3n b3m]) → Only (blkOf (.slice p n cap)) W w' → (∀ q ∈ blkOf (.slice p' (n + 1) cap'), q ∈ blkOf (.slice p n cap) ∨ W.heap.size ≤ q) → K (a.put o.dst (.slice p' (n + 1) cap')) w') :
    if Region.wanted o (yielded ops a.tmps) = true then Oper.wp Tryd.prog o a (W.alloc (.cells #[.int .i64 kd, .slice a0 a0n a0m, .int .i64 pl, .string nm, .string tn, .int .i64 ks, .slice a1 a1n a1m, .slice a2 a2n a2m, .slice a3 a3n a3m, .int .i64 kw, .slice b1 b1n b1m, .slice b2 b2n b2m, .slice b3 b3n b3m] 33)) K Q else E := by
  have hw : Region.wanted o (yielded ops a.tmps) = true := by simp [Region.wanted, hgd]
  rw [if_pos hw]
  obtain ⟨i0, hi, hz0, hz1, hz2⟩ := info_parts info_edit
  have hnew := Go.Deep.blk_alloc_new W (.cells #[.int .i64 kd, .slice a0 a0n a0m, .int .i64 pl, .string nm, .string tn, .int .i64 ks, .slice a1 a1n a1m, .slice a2 a2n a2m, .slice a3 a3n a3m, .int .i64 kw, .slice b1 b1n b1m, .slice b2 b2n b2m, .slice b3 b3n b3m] 33)
  have hba := below_alloc W (.cells #[.int .i64 kd, .slice a0 a0n a0m, .int .i64 pl, .string nm, .string tn, .int .i64 ks, .slice a1 a1n a1m, .slice a2 a2n a2m, .slice a3 a3n a3m, .int .i64 kw, .slice b1 b1n b1m, .slice b2 b2n b2m, .slice b3 b3n b3m] 33)
  have hown' : (W.alloc (.cells #[.int .i64 kd, .slice a0 a0n a0m, .int .i64 pl, .string nm, .string tn, .int .i64 ks, .slice a1 a1n a1m, .slice a2 a2n a2m, .slice a3 a3n a3m, .int .i64 kw, .slice b1 b1n b1m, .slice b2 b2n b2m, .slice b3 b3n b3m] 33)).ownsRow B 33 13 (.slice p n cap) n xs := own_block hown fun g hg => hba.block g (blkOf_own hown g hg).2
  refine wp_append_own_at s x _ ho B 33 i0 _ 13 232 Tryd.underlying41 hi hz0 hz1 hz2 rfl (by decide) _ n xs hs hown' ⟨W.heap.size, 0, none⟩ 1 1 [.int .i64 kd, .slice a0 a0n a0m, .int .i64 pl, .string nm, .string tn, .int .i64 ks, .slice a1 a1n a1m, .slice a2 a2n a2m, .slice a3 a3n a3m, .int .i64 kw, .slice b1 b1n b1m, .slice b2 b2n b2m, .slice b3 b3n b3m] hx rfl ?_ ?_ (by unfold maxLen; omega) (by omega) (by simp; omega) ?_
  · intro j u hj
    rw [show (⟨W.heap.size, 0, none⟩ : Addr).add j = ⟨W.heap.size, 0 + j, none⟩ from by unfold Addr.add; split <;> simp_all, Nat.zero_add]
    have : (W.alloc (.cells #[.int .i64 kd, .slice a0 a0n a0m, .int .i64 pl, .string nm, .string tn, .int .i64 ks, .slice a1 a1n a1m, .slice a2 a2n a2m, .slice a3 a3n a3m, .int .i64 kw, .slice b1 b1n b1m, .slice b2 b2n b2m, .slice b3 b3n b3m] 33)).cell? ⟨W.heap.size, j, none⟩ = [Value.int .i64 kd, .slice a0 a0n a0m, .int .i64 pl, .string nm, .string tn, .int .i64 ks, .slice a1 a1n a1m, .slice a2 a2n a2m, .slice a3 a3n a3m, .int .i64 kw, .slice b1 b1n b1m, .slice b2 b2n b2m, .slice b3 b3n b3m][j]? := by
      unfold World.cell?
      rw [hnew]
      simp
    rw [this, hj]
  · intro u hu
    simp only [List.mem_cons, List.not_mem_nil, or_false] at hu
    rcases hu with rfl | rfl | rfl | rfl | rfl | rfl | rfl | rfl | rfl | rfl | rfl | rfl | rfl <;> rfl
  · intro v' w' hv hg hat
    obtain ⟨p', cap', rfl⟩ := own_slice' hv
    refine h p' cap' w' hv ?_ fun q hq => ?_
    · refine ⟨hg.os, hg.tape, hg.output, Nat.le_trans hba.size hg.size, fun q hq hne => ?_⟩
      rw [hg.block q (Nat.lt_of_lt_of_le hq hba.size) fun e => hne ((ownBlock_blk hown q).1 e.symm)]
      exact hba.block q hq
    · have e := (ownBlock_blk hv q).2 hq
      rcases hat with ha | ha
      · rw [ha] at e; exact .inl ((ownBlock_blk hown q).1 e)
      · rw [ha] at e
        right
        have := Option.some.inj e
        simp at this; omega

set_option maxRecDepth 100000 in
/-- .. in a straight line. -/
theorem wpList_ed {ops : Array Oper} {rest : List Oper} {o : Oper} {a : Act} {Q : Exit → Act → World → Prop} (W : World) (hgd : o.guard = none) (s x : Operand)
    (ho : o.op = .call { callee := .builtin .append, args := #[s, x], argTypes := #[41, 41] })
    (B : Nat) (p : Option Addr) (n cap : Nat) (xs : List Value) (kd : Int) (a0 : Option Addr) (a0n a0m : Nat) (pl : Int) (nm : ByteArray) (tn : ByteArray) (ks : Int) (a1 : Option Addr) (a1n a1m : Nat) (a2 : Option Addr) (a2n a2m : Nat) (a3 : Option Addr) (a3n a3m : Nat) (kw : Int) (b1 : Option Addr) (b1n b1m : Nat) (b2 : Option Addr) (b2n b2m : Nat) (b3 : Option Addr) (b3n b3m : Nat) (hs : a.eval s = .slice p n cap) (hown : W.ownsRow B 33 13 (.slice p n cap) n xs) (hx : a.eval x = .slice (some ⟨W.heap.size, 0, none⟩) 1 1)
    (hn : n ≤ 4000000) (hB : B ≤ W.heap.size)
    (h : ∀ p' cap' w', w'.ownsRow B 33 13 (.slice p' (n + 1) cap') (n + 1) (xs ++ [.int .i64 kd, .slice a0 a0n a0m, .int .i64 pl, .string nm, .string tn, .int .i64 ks, .slice a1 a1n a1m, .slice a2 a2n a2m, .slice a3 a3n a3m, .int .i64 kw, .slice b1 b1n b1m, .slice b2 b2n b2m, .slice b3 b3n b3m]) → Only (blkOf (.slice p n cap)) W w' → (∀ q ∈ blkOf (.slice p' (n + 1) cap'), q ∈ blkOf (.slice p n cap) ∨ W.heap.size ≤ q) → wpList Tryd.prog ops Q rest (a.put o.dst (.slice p' (n + 1) cap')) w') :
    wpList Tryd.prog ops Q (o :: rest) a (W.alloc (.cells #[.int .i64 kd, .slice a0 a0n a0m, .int .i64 pl, .string nm, .string tn, .int .i64 ks, .slice a1 a1n a1m, .slice a2 a2n a2m, .slice a3 a3n a3m, .int .i64 kw, .slice b1 b1n b1m, .slice b2 b2n b2m, .slice b3 b3n b3m] 33)) := by
  obtain ⟨i0, hi, hz0, hz1, hz2⟩ := info_parts info_edit
  have hnew := Go.Deep.blk_alloc_new W (.cells #[.int .i64 kd, .slice a0 a0n a0m, .int .i64 pl, .string nm, .string tn, .int .i64 ks, .slice a1 a1n a1m, .slice a2 a2n a2m, .slice a3 a3n a3m, .int .i64 kw, .slice b1 b1n b1m, .slice b2 b2n b2m, .slice b3 b3n b3m] 33)
  have hba := below_alloc W (.cells #[.int .i64 kd, .slice a0 a0n a0m, .int .i64 pl, .string nm, .string tn, .int .i64 ks, .slice a1 a1n a1m, .slice a2 a2n a2m, .slice a3 a3n a3m, .int .i64 kw, .slice b1 b1n b1m, .slice b2 b2n b2m, .slice b3 b3n b3m] 33)
  have hown' : (W.alloc (.cells #[.int .i64 kd, .slice a0 a0n a0m, .int .i64 pl, .string nm, .string tn, .int .i64 ks, .slice a1 a1n a1m, .slice a2 a2n a2m, .slice a3 a3n a3m, .int .i64 kw, .slice b1 b1n b1m, .slice b2 b2n b2m, .slice b3 b3n b3m] 33)).ownsRow B 33 13 (.slice p n cap) n xs := own_block hown fun g hg => hba.block g (blkOf_own hown g hg).2
  refine wpList_append_own_at (W.alloc (.cells #[.int .i64 kd, .slice a0 a0n a0m, .int .i64 pl, .string nm, .string tn, .int .i64 ks, .slice a1 a1n a1m, .slice a2 a2n a2m, .slice a3 a3n a3m, .int .i64 kw, .slice b1 b1n b1m, .slice b2 b2n b2m, .slice b3 b3n b3m] 33)) hgd s x _ ho B 33 i0 _ 13 232 Tryd.underlying41 hi hz0 hz1 hz2 rfl (by decide) _ n xs hs hown' ⟨W.heap.size, 0, none⟩ 1 1 [.int .i64 kd, .slice a0 a0n a0m, .int .i64 pl, .string nm, .string tn, .int .i64 ks, .slice a1 a1n a1m, .slice a2 a2n a2m, .slice a3 a3n a3m, .int .i64 kw, .slice b1 b1n b1m, .slice b2 b2n b2m, .slice b3 b3n b3m] hx rfl ?_ ?_ (by unfold maxLen; omega) (by omega) (by simp; omega) ?_
  · intro j u hj
    rw [show (⟨W.heap.size, 0, none⟩ : Addr).add j = ⟨W.heap.size, 0 + j, none⟩ from by unfold Addr.add; split <;> simp_all, Nat.zero_add]
    have : (W.alloc (.cells #[.int .i64 kd, .slice a0 a0n a0m, .int .i64 pl, .string nm, .string tn, .int .i64 ks, .slice a1 a1n a1m, .slice a2 a2n a2m, .slice a3 a3n a3m, .int .i64 kw, .slice b1 b1n b1m, .slice b2 b2n b2m, .slice b3 b3n b3m] 33)).cell? ⟨W.heap.size, j, none⟩ = [Value.int .i64 kd, .slice a0 a0n a0m, .int .i64 pl, .string nm, .string tn, .int .i64 ks, .slice a1 a1n a1m, .slice a2 a2n a2m, .slice a3 a3n a3m, .int .i64 kw, .slice b1 b1n b1m, .slice b2 b2n b2m, .slice b3 b3n b3m][j]? := by
      unfold World.cell?
      rw [hnew]
      simp
    rw [this, hj]
  · intro u hu
    simp only [List.mem_cons, List.not_mem_nil, or_false] at hu
    rcases hu with rfl | rfl | rfl | rfl | rfl | rfl | rfl | rfl | rfl | rfl | rfl | rfl | rfl <;> rfl
  · intro v' w' hv hg _ hat
    obtain ⟨p', cap', rfl⟩ := own_slice' hv
    refine h p' cap' w' hv ?_ fun q hq => ?_
    · refine ⟨hg.os, hg.tape, hg.output, Nat.le_trans hba.size hg.size, fun q hq hne => ?_⟩
      rw [hg.block q (Nat.lt_of_lt_of_le hq hba.size) fun e => hne ((ownBlock_blk hown q).1 e.symm)]
      exact hba.block q hq
    · have e := (ownBlock_blk hv q).2 hq
      rcases hat with ha | ha
      · rw [ha] at e; exact .inl ((ownBlock_blk hown q).1 e)
      · rw [ha] at e
        right
        have := Option.some.inj e
        simp at this; omega

/-- A row of Edits that grows, in a world behind W: the row and what its elements go through. -/
def EdsInv (W wr : World) (l : List Ed) (p : Option Addr) (n cap : Nat) (cs : List Value) (F : List Nat) : Prop :=
  n = l.length ∧ wr.ownsRow W.heap.size 33 13 (.slice p n cap) n cs ∧ OwnAllE wr W.heap.size l cs F ∧ (blkOf (.slice p n cap) ++ F).Nodup ∧ Below W.heap.size W wr
theorem EdsInv.below {W wr w' : World} {l : List Ed} {p : Option Addr} {n cap : Nat} {cs : List Value} {F : List Nat} (h : EdsInv W wr l p n cap cs F) (hb : Below wr.heap.size wr w') : EdsInv W w' l p n cap cs F := by
  obtain ⟨h0, h1, h2, h3, h4⟩ := h
  exact ⟨h0, own_block h1 fun g hg => hb.block g (blkOf_own h1 g hg).2, h2.move (Nat.le_refl _) fun g hg => hb.block g (h2.lt g hg).2, h3, h4.trans (hb.mono h4.size)⟩
theorem eds_push {W w1 w2 : World} {l : List Ed} {t : Ed} {p p' : Option Addr} {n cap cap' B1 : Nat} {cs : List Value} {F F1 : List Nat} {c0 c1 c2 c3 c4 c5 c6 c7 c8 c9 c10 c11 c12 : Value} (hI : EdsInv W w1 l p n cap cs F) (h1 : OwnEd w1 B1 t (.agg #[c0, c1, c2, c3, c4, c5, c6, c7, c8, c9, c10, c11, c12]) F1) (hn1 : F1.Nodup) (hB1 : W.heap.size ≤ B1)
    (hd : ∀ g ∈ F1, g ∉ blkOf (.slice p n cap) ∧ g ∉ F) (hv : w2.ownsRow W.heap.size 33 13 (.slice p' (n + 1) cap') (n + 1) (cs ++ [c0, c1, c2, c3, c4, c5, c6, c7, c8, c9, c10, c11, c12])) (hy : Only (blkOf (.slice p n cap)) w1 w2) (hq : ∀ q ∈ blkOf (.slice p' (n + 1) cap'), q ∈ blkOf (.slice p n cap) ∨ w1.heap.size ≤ q) :
    EdsInv W w2 (l ++ [t]) p' (n + 1) cap' (cs ++ [c0, c1, c2, c3, c4, c5, c6, c7, c8, c9, c10, c11, c12]) (F ++ F1) := by
  obtain ⟨h0, hr, hA, hN, hb⟩ := hI
  obtain ⟨hN1, hN2, hN3⟩ := List.nodup_append.1 hN
  have lF := hA.lt
  have lF1 := OwnEd.blocks h1
  have hA' : OwnAllE w2 W.heap.size l cs F := hA.move (Nat.le_refl _) fun g hg => hy.block g (lF g hg).2 fun hm => hN3 g hm g hg rfl
  have h1' : OwnEd w2 W.heap.size t (.agg #[c0, c1, c2, c3, c4, c5, c6, c7, c8, c9, c10, c11, c12]) F1 := OwnEd.move hB1 (fun g hg => hy.block g (lF1 g hg).2 (hd g hg).1) h1
  refine ⟨by simp [h0], hv, hA'.snoc h1', ?_, hb.trans (hy.below hb.size fun g hg => (blkOf_own hr g hg).1)⟩
  refine List.nodup_append.2 ⟨blk_nodup _ _ _, List.nodup_append.2 ⟨hN2, hn1, fun a ha c hc e => (hd c hc).2 (e ▸ ha)⟩, fun a ha c hc e => ?_⟩
  subst e
  rcases hq a ha with hm | hm
  · rcases List.mem_append.1 hc with hc | hc
    · exact hN3 a hm a hc rfl
    · exact (hd a hc).1 hm
  · rcases List.mem_append.1 hc with hc | hc
    · have := (lF a hc).2; omega
    · have := (lF1 a hc).2; omega
end Go.Proofs.YtfdhmkmeffgkgaaDoor
namespace Go.Proofs.YtfdhmkmeffgkgaaDoor
open Go.RowKit

/-- In a round: a region that draws its order, S held. -/
theorem round_held {P : Program} {Q : Exit → Act → World → Prop} {r m : Nat} {id : Nat} {a : Act} {w : World} {l : List Oper} {S : World → Prop} (hm : P.follows .mixedOrders = true) (hd : (l.all fun o => match o.op with | .defer _ => false | _ => true) = true) (hQ : ¬ LetsOut Q) (hS : S w.drew)
    (h : S w.drew → wpAnyH P .any l.toArray Q S l.toArray.size (Array.replicate l.toArray.size false) a w.drew) : (Code.region id l.toArray true).wpIn (Fence.wide.inRound r) m P Q a w := by
  refine wpIn_region_any hm (any_round (fun i o ho c hc => ?_) hQ _ _ _ _ (wpAny_of_held _ _ _ _ (h hS)))
  have hm := List.all_eq_true.1 hd o (by
    rw [List.getElem?_toArray] at ho
    exact List.mem_of_getElem? ho)
  rw [hc] at hm
  cases hm

/-- What stands in these blocks are cells. -/
def AreCells (w : World) (F : List Nat) : Prop := ∀ g ∈ F, ∃ o : Obj, w.heap[g]? = some o ∧ o.isCells = true
theorem own_cells {w : World} {base T sz n : Nat} {v : Value} {xs : List Value} (h : w.ownsRow base T sz v n xs) : AreCells w (blkOf v) := by
  rcases h.2 with ⟨rfl, _⟩ | ⟨g, cap, cur, rfl, hb, hg, _⟩
  · intro g hg; cases hg
  · intro g' hg'
    simp [blkOf] at hg'
    subst hg'
    exact ⟨_, hg, rfl⟩
theorem AreCells.app {w : World} {F G : List Nat} (h : AreCells w F) (k : AreCells w G) : AreCells w (F ++ G) := fun g hg => (List.mem_append.1 hg).elim (h g) (k g)
theorem OwnAll.cells' {w : World} {base : Nat} : ∀ {l : List Sh} {cs : List Value} {F : List Nat}, (∀ x ∈ l, ∀ v F, OwnSh w base x v F → AreCells w F) → OwnAll w base l cs F → AreCells w F
  | [], cs, F, _, h => by
    simp only [OwnAll] at h
    rw [h.2]; intro g hg; cases hg
  | x :: l, cs, F, hx, h => by
    simp only [OwnAll] at h
    obtain ⟨c0, c1, c2, c3, cs', F1, F2, _, h1, h2, rfl⟩ := h
    exact (hx x (by simp) _ _ h1).app (OwnAll.cells' (fun y hy => hx y (by simp [hy])) h2)
theorem OwnSh.cells' {w : World} {base : Nat} : ∀ (t : Sh) (v : Value) (F : List Nat), OwnSh w base t v F → AreCells w F := by
  refine Sh.ind fun k sy na su ih v F h => ?_
  obtain ⟨vs, vn, vp, cs, Fs, rfl, _, h2, h3, h4, h5, rfl⟩ := h.parts
  exact (own_cells h2.2).app ((own_cells h3.2).app ((own_cells h4).app (OwnAll.cells' ih h5)))
theorem OwnEd.cells' {w : World} {base : Nat} {t : Ed} {v : Value} {F : List Nat} (h : OwnEd w base t v F) : AreCells w F := by
  obtain ⟨p0, m0, p1, n1, m1, p2, n2, m2, p3, n3, m3, q1, i1, j1, q2, i2, j2, q3, i3, j3, F1, F2, rfl, h1, h2, h3, h4, h5, h6, h7, rfl⟩ := h
  exact (own_cells h5.2).app ((OwnSh.cells' _ _ _ h6).app (OwnSh.cells' _ _ _ h7))
theorem OwnAllE.cells' {w : World} {base : Nat} : ∀ {l : List Ed} {cs : List Value} {F : List Nat}, OwnAllE w base l cs F → AreCells w F
  | [], cs, F, h => by
    simp only [OwnAllE] at h
    rw [h.2]; intro g hg; cases hg
  | x :: l, cs, F, h => by
    simp only [OwnAllE] at h
    obtain ⟨c0, c1, c2, c3, c4, c5, c6, c7, c8, c9, c10, c11, c12, cs', F1, F2, _, h1, h2, rfl⟩ := h
    exact (OwnEd.cells' h1).app h2.cells'
theorem others_only {F : List Nat} {W W' : World} (h : Only F W W') (hF : AreCells W F) : KeepsOthers W W' :=
  ⟨h.size, fun k o hk ho => (h.block k (Array.getElem?_eq_some_iff.1 hk).1 fun hm => by
    obtain ⟨o', h1, h2⟩ := hF k hm
    rw [hk] at h1; cases h1; rw [ho] at h2; cases h2).trans hk⟩
theorem others_below {W W' : World} (h : Below W.heap.size W W') : KeepsOthers W W' := ⟨h.size, fun k o hk _ => by rw [h.block k (Array.getElem?_eq_some_iff.1 hk).1]; exact hk⟩
theorem grown_blocks {F : List Nat} {W W' : World} {row : Option Nat} (hF : AreCells W F) (hg : W.grownBy W' row) (hr : ∀ r, row = some r → ∃ o : Obj, W.heap[r]? = some o ∧ o.isCells = false) : ∀ g ∈ F, W'.heap[g]? = W.heap[g]? := fun g hm => by
  obtain ⟨o, h1, h2⟩ := hF g hm
  exact grownBy_keeps_cells hg hr h1 h2

/-- A row of Edits that grows: the row and what its elements go through, from base on. -/
def RowE (base : Nat) (wr : World) (l : List Ed) (p : Option Addr) (n cap : Nat) (cs : List Value) (F : List Nat) : Prop :=
  n = l.length ∧ wr.ownsRow base 33 13 (.slice p n cap) n cs ∧ OwnAllE wr base l cs F ∧ (blkOf (.slice p n cap) ++ F).Nodup
theorem RowE.cells' {base : Nat} {wr : World} {l : List Ed} {p : Option Addr} {n cap : Nat} {cs : List Value} {F : List Nat} (h : RowE base wr l p n cap cs F) : AreCells wr (blkOf (.slice p n cap) ++ F) := (own_cells h.2.1).app h.2.2.1.cells'
theorem RowE.lt {base : Nat} {wr : World} {l : List Ed} {p : Option Addr} {n cap : Nat} {cs : List Value} {F : List Nat} (h : RowE base wr l p n cap cs F) : ∀ g ∈ blkOf (.slice p n cap) ++ F, base ≤ g ∧ g < wr.heap.size := fun g hg =>
  (List.mem_append.1 hg).elim (blkOf_own h.2.1 g) (h.2.2.1.lt g)
theorem RowE.move {base : Nat} {wr w' : World} {l : List Ed} {p : Option Addr} {n cap : Nat} {cs : List Value} {F : List Nat} (h : RowE base wr l p n cap cs F) (e : ∀ g ∈ blkOf (.slice p n cap) ++ F, w'.heap[g]? = wr.heap[g]?) : RowE base w' l p n cap cs F :=
  ⟨h.1, own_block h.2.1 fun g hg => e g (List.mem_append_left _ hg), h.2.2.1.move (Nat.le_refl _) fun g hg => e g (List.mem_append_right _ hg), h.2.2.2⟩
theorem RowE.below {base : Nat} {wr w' : World} {l : List Ed} {p : Option Addr} {n cap : Nat} {cs : List Value} {F : List Nat} (h : RowE base wr l p n cap cs F) (hb : Below wr.heap.size wr w') : RowE base w' l p n cap cs F :=
  h.move fun g hg => hb.block g (h.lt g hg).2
theorem rowe_nil (base : Nat) (w : World) : RowE base w [] none 0 0 [] [] := ⟨rfl, World.ownsRow_nil _ _ _ _, by simp [OwnAllE], by simp [blkOf]⟩
theorem rowe_push {base : Nat} {w1 w2 : World} {l : List Ed} {t : Ed} {p p' : Option Addr} {n cap cap' B1 : Nat} {cs : List Value} {F F1 : List Nat} {c0 c1 c2 c3 c4 c5 c6 c7 c8 c9 c10 c11 c12 : Value} (hI : RowE base w1 l p n cap cs F) (h1 : OwnEd w1 B1 t (.agg #[c0, c1, c2, c3, c4, c5, c6, c7, c8, c9, c10, c11, c12]) F1) (hn1 : F1.Nodup) (hB1 : base ≤ B1)
    (hd : ∀ g ∈ F1, g ∉ blkOf (.slice p n cap) ∧ g ∉ F) (hv : w2.ownsRow base 33 13 (.slice p' (n + 1) cap') (n + 1) (cs ++ [c0, c1, c2, c3, c4, c5, c6, c7, c8, c9, c10, c11, c12])) (hy : Only (blkOf (.slice p n cap)) w1 w2) (hq : ∀ q ∈ blkOf (.slice p' (n + 1) cap'), q ∈ blkOf (.slice p n cap) ∨ w1.heap.size ≤ q) :
    RowE base w2 (l ++ [t]) p' (n + 1) cap' (cs ++ [c0, c1, c2, c3, c4, c5, c6, c7, c8, c9, c10, c11, c12]) (F ++ F1) := by
  obtain ⟨h0, hr, hA, hN⟩ := hI
  obtain ⟨hN1, hN2, hN3⟩ := List.nodup_append.1 hN
  have lF := hA.lt
  have lF1 := OwnEd.blocks h1
  have hA' : OwnAllE w2 base l cs F := hA.move (Nat.le_refl _) fun g hg => hy.block g (lF g hg).2 fun hm => hN3 g hm g hg rfl
  have h1' : OwnEd w2 base t (.agg #[c0, c1, c2, c3, c4, c5, c6, c7, c8, c9, c10, c11, c12]) F1 := OwnEd.move hB1 (fun g hg => hy.block g (lF1 g hg).2 (hd g hg).1) h1
  refine ⟨by simp [h0], hv, hA'.snoc h1', ?_⟩
  refine List.nodup_append.2 ⟨blk_nodup _ _ _, List.nodup_append.2 ⟨hN2, hn1, fun a ha c hc e => (hd c hc).2 (e ▸ ha)⟩, fun a ha c hc e => ?_⟩
  subst e
  rcases hq a ha with hm | hm
  · rcases List.mem_append.1 hc with hc | hc
    · exact hN3 a hm a hc rfl
    · exact (hd a hc).1 hm
  · rcases List.mem_append.1 hc with hc | hc
    · have := (lF a hc).2; omega
    · have := (lF1 a hc).2; omega

/-- What undoes Edits, the last one first. -/
def backsR (l : List Ed) : List Ed := if l.length ≤ 400 ∧ l.all edOk = true then (l.map undoneR).reverse else []
def EdsPost (l : List Ed) (w : World) (e : Ending) (w' : World) : Prop := ∃ p n cap cs F, e = .returned (.slice p n cap) ∧ EdsInv w w' l p n cap cs F
theorem eds_empty (w w' : World) (hb : Below w.heap.size w w') : EdsInv w (w'.alloc (.cells #[] 33)) [] (some ⟨w'.heap.size, 0, none⟩) 0 0 [] [] :=
  ⟨rfl, ⟨rfl, .inr ⟨w'.heap.size, 0, #[], rfl, hb.size, Go.Deep.blk_alloc_new _ _, Nat.le_refl _, by decide, rfl, rfl⟩⟩, by simp [OwnAllE], by simp [blkOf], hb.alloc hb.size _⟩
theorem backs_no {l : List Ed} {j : Nat} (h : j < l.length) (hn : edOk l[j] = false) : backsR l = [] := by
  unfold backsR
  rw [if_neg]
  rintro ⟨_, ha⟩
  have := List.all_eq_true.1 ha l[j] (List.getElem_mem h)
  rw [hn] at this; cases this

end Go.Proofs.YtfdhmkmeffgkgaaDoor
