/- Laws: in a round of a range over a function, a region that draws its order: what only reads ahead of a tail in one order. · Rows of Edits of the call's own, within a range over a function; a region that draws its order in a round, with what it reads held. -/
import Derived.RangeFuncNested
import Derived.RangeFuncCalls
import Derived.OwnWalkIn
import Derived.StillTailTactics
import Derived.Test.YtfdhmkmeffgkgaaDoorGBase
import Derived.Test.YtfdhmkmeffgkgaaDoorGPushEW
import Derived.Test.YtfdhmkmeffgkgaaDoorGEdBkP
import Derived.Deep.RegionHeld3
namespace Go.Proofs.YtfdhmkmeffgkgaaDoor
open Go.RowKit
variable {P : Program} {Q : Exit → Act → World → Prop} {r m : Nat}

theorem upon_round {o : Oper} {a : Act} {next : Act → World → Prop} : ∀ res : Result Next, o.upon P a next Q res → o.uponIn (Fence.wide.inRound r) m P a next Q res
  | .ok (.value _) _, h => h
  | .ok .skip _, h => h
  | .ok (.defer _) _, h => h
  | .ok (.enter _ _) _, h => ⟨fun h => (by cases h), CallsIn.inRound r (callsIn_wide.2 h)⟩
  | .ok (.row _ _) _, h => ⟨fun h => (by cases h), fun c cs _ => let ⟨v, w', hr, s⟩ := h c cs; ⟨v, w', hr, stepsIn_wide.2 s⟩⟩
  | .halt (.panic _) _, h => h
theorem op_round {ops : Array Oper} {i : Nat} {K K' : Act → World → Prop} {a : Act} {w : World} (hd : ∀ (i : Nat) (o : Oper), ops[i]? = some o → ∀ c, o.op ≠ Op.defer c) (hQ : ¬ LetsOut Q) (hk : ∀ (a : Act) (w : World), K a w → K' a w) (h : wpOp P ops Q i K a w) : wpOpIn (Fence.wide.inRound r) m P ops Q i K' a w := by
  unfold wpOp at h
  unfold wpOpIn
  cases ho : ops[i]? with
  | none => rw [ho] at h; exact hk _ _ h
  | some o =>
    rw [ho] at h
    simp only at h ⊢
    by_cases hw : Region.wanted o (yielded ops a.tmps) = true
    · rw [if_pos hw] at h ⊢
      rcases h with h | h
      · refine ⟨fun _ _ => trivial, ?_⟩
        rw [Oper.semAt_eq _ _ _ (hd i o ho)]
        exact upon_round _ (Oper.wp_mono hk h)
      · exact absurd h.2 hQ
    · rw [if_neg hw] at h ⊢
      exact ⟨fun _ _ => trivial, hk _ _ h⟩
theorem any_round {md : Region.Mode} {ops : Array Oper} (hd : ∀ (i : Nat) (o : Oper), ops[i]? = some o → ∀ c, o.op ≠ Op.defer c) (hQ : ¬ LetsOut Q) : ∀ (fuel : Nat) (listed : Array Bool) (a : Act) (w : World), wpAny P md ops Q fuel listed a w → wpAnyIn (Fence.wide.inRound r) m P md ops Q fuel listed a w
  | 0, _, _, _, h => h
  | fuel + 1, _, _, _, h => ⟨h.1, fun i hi => op_round hd hQ (fun a' w' hk => any_round hd hQ fuel _ a' w' hk) (h.2 i hi)⟩

/-- Reads, then a tail in one order. -/
theorem round_tail {id : Nat} {a : Act} {w : World} {l : List Oper} (n : Nat) (hm : P.follows .mixedOrders = true) (hB : Region.lexTailB .any l.toArray n = true) (hd : (l.all fun o => match o.op with | .defer _ => false | _ => true) = true) (hQ : ¬ LetsOut Q)
    (h : wpStill P l.toArray { w with drawn := w.drawn + 1 } (fun a' => wpList P l.toArray Q (l.drop n) a' { w with drawn := w.drawn + 1 }) (l.take n) a) : (Code.region id l.toArray true).wpIn (Fence.wide.inRound r) m P Q a w := by
  refine wpIn_region_any hm (any_round (fun i o ho c hc => ?_) hQ _ _ _ _ ?_)
  · have hm := List.all_eq_true.1 hd o (by
      rw [List.getElem?_toArray] at ho
      exact List.mem_of_getElem? ho)
    rw [hc] at hm
    cases hm
  · simp only [Region.lexTailB, Bool.and_eq_true, decide_eq_true_eq] at hB
    obtain ⟨⟨⟨⟨g1, g2⟩, g3⟩, g4⟩, g5⟩ := hB
    have k1 : n < l.length := by simpa using g2
    have k2 : (l.take n).length = n := by simp; omega
    have k3 : (l.drop n).length = l.toArray.size - n := by simp
    have hI : HeadInv .any l.toArray n (Array.replicate l.toArray.size false) :=
      ⟨by simp, fun _ _ _ hl => (by rw [getD_replicate_false] at hl; cases hl), fun _ _ ht => getD_in (by simpa using ht) (getD_replicate_false _ _)⟩
    have hH := wpAnyL_lex (md := .any) (g := l.toArray.size - n) g1 g3 g4 g2 (l.take n) 0 _ a (fun j hj => by
      have : j < n := by rw [k2] at hj; exact hj
      simp [this]) (by simpa using k2) hI (by rw [k2]; exact g5) h
    have hA := wpAny_of_head (Q' := Q) (g := l.toArray.size - n) (fun listed a' hL => by
      have := wpAny_of_seq (md := .any) (Q' := Q) (l.drop n) n listed a' { w with drawn := w.drawn + 1 } (fun j => by simp [List.getElem?_drop]) (by rw [k3]; exact hL.1) hL.2
      rwa [k3] at this) _ _ _ hH
    rw [k2, show n + (l.toArray.size - n) = l.toArray.size by omega] at hA
    exact hA
end Go.Proofs.YtfdhmkmeffgkgaaDoor
namespace Go.Proofs.YtfdhmkmeffgkgaaDoor
open Go.RowKit

/-- In a round: a region that draws its order, S held. -/
theorem round_held {P : Program} {Q : Exit → Act → World → Prop} {r m : Nat} {id : Nat} {a : Act} {w : World} {l : List Oper} {S : World → Prop} (hm : P.follows .mixedOrders = true) (hd : (l.all fun o => match o.op with | .defer _ => false | _ => true) = true) (hQ : ¬ LetsOut Q) (hS : S w.drew)
    (h : S w.drew → wpAnyH P .any l.toArray Q S l.toArray.size (Array.replicate l.toArray.size false) a w.drew) : (Code.region id l.toArray true).wpIn (Fence.wide.inRound r) m P Q a w := by
  refine wpIn_region_any hm (any_round (fun i o ho c hc => ?_) hQ _ _ _ _ (wpAny_of_held _ _ _ _ (h hS)))
  have hm := List.all_eq_true.1 hd o (by
    rw [List.getElem?_toArray] at ho
    exact List.mem_of_getElem? ho)
  rw [hc] at hm
  cases hm

/-- What stands in these blocks are cells. -/
def AreCells (w : World) (F : List Nat) : Prop := ∀ g ∈ F, ∃ o : Obj, w.heap[g]? = some o ∧ o.isCells = true
theorem own_cells {w : World} {base T sz n : Nat} {v : Value} {xs : List Value} (h : w.ownsRow base T sz v n xs) : AreCells w (blkOf v) := by
  rcases h.2 with ⟨rfl, _⟩ | ⟨g, cap, cur, rfl, hb, hg, _⟩
  · intro g hg; cases hg
  · intro g' hg'
    simp [blkOf] at hg'
    subst hg'
    exact ⟨_, hg, rfl⟩
theorem AreCells.app {w : World} {F G : List Nat} (h : AreCells w F) (k : AreCells w G) : AreCells w (F ++ G) := fun g hg => (List.mem_append.1 hg).elim (h g) (k g)
theorem OwnAll.cells' {w : World} {base : Nat} : ∀ {l : List Sh} {cs : List Value} {F : List Nat}, (∀ x ∈ l, ∀ v F, OwnSh w base x v F → AreCells w F) → OwnAll w base l cs F → AreCells w F
  | [], cs, F, _, h => by
    simp only [OwnAll] at h
    rw [h.2]; intro g hg; cases hg
  | x :: l, cs, F, hx, h => by
    simp only [OwnAll] at h
    obtain ⟨c0, c1, c2, c3, cs', F1, F2, _, h1, h2, rfl⟩ := h
    exact (hx x (by simp) _ _ h1).app (OwnAll.cells' (fun y hy => hx y (by simp [hy])) h2)
theorem OwnSh.cells' {w : World} {base : Nat} : ∀ (t : Sh) (v : Value) (F : List Nat), OwnSh w base t v F → AreCells w F := by
  refine Sh.ind fun k sy na su ih v F h => ?_
  obtain ⟨vs, vn, vp, cs, Fs, rfl, _, h2, h3, h4, h5, rfl⟩ := h.parts
  exact (own_cells h2.2).app ((own_cells h3.2).app ((own_cells h4).app (OwnAll.cells' ih h5)))
theorem OwnEd.cells' {w : World} {base : Nat} {t : Ed} {v : Value} {F : List Nat} (h : OwnEd w base t v F) : AreCells w F := by
  obtain ⟨p0, m0, p1, n1, m1, p2, n2, m2, p3, n3, m3, q1, i1, j1, q2, i2, j2, q3, i3, j3, F1, F2, rfl, h1, h2, h3, h4, h5, h6, h7, rfl⟩ := h
  exact (own_cells h5.2).app ((OwnSh.cells' _ _ _ h6).app (OwnSh.cells' _ _ _ h7))
theorem OwnAllE.cells' {w : World} {base : Nat} : ∀ {l : List Ed} {cs : List Value} {F : List Nat}, OwnAllE w base l cs F → AreCells w F
  | [], cs, F, h => by
    simp only [OwnAllE] at h
    rw [h.2]; intro g hg; cases hg
  | x :: l, cs, F, h => by
    simp only [OwnAllE] at h
    obtain ⟨c0, c1, c2, c3, c4, c5, c6, c7, c8, c9, c10, c11, c12, cs', F1, F2, _, h1, h2, rfl⟩ := h
    exact (OwnEd.cells' h1).app h2.cells'
theorem others_only {F : List Nat} {W W' : World} (h : Only F W W') (hF : AreCells W F) : KeepsOthers W W' :=
  ⟨h.size, fun k o hk ho => (h.block k (Array.getElem?_eq_some_iff.1 hk).1 fun hm => by
    obtain ⟨o', h1, h2⟩ := hF k hm
    rw [hk] at h1; cases h1; rw [ho] at h2; cases h2).trans hk⟩
theorem others_below {W W' : World} (h : Below W.heap.size W W') : KeepsOthers W W' := ⟨h.size, fun k o hk _ => by rw [h.block k (Array.getElem?_eq_some_iff.1 hk).1]; exact hk⟩
theorem grown_blocks {F : List Nat} {W W' : World} {row : Option Nat} (hF : AreCells W F) (hg : W.grownBy W' row) (hr : ∀ r, row = some r → ∃ o : Obj, W.heap[r]? = some o ∧ o.isCells = false) : ∀ g ∈ F, W'.heap[g]? = W.heap[g]? := fun g hm => by
  obtain ⟨o, h1, h2⟩ := hF g hm
  exact grownBy_keeps_cells hg hr h1 h2

/-- A row of Edits that grows: the row and what its elements go through, from base on. -/
def RowE (base : Nat) (wr : World) (l : List Ed) (p : Option Addr) (n cap : Nat) (cs : List Value) (F : List Nat) : Prop :=
  n = l.length ∧ wr.ownsRow base 33 13 (.slice p n cap) n cs ∧ OwnAllE wr base l cs F ∧ (blkOf (.slice p n cap) ++ F).Nodup
theorem RowE.cells' {base : Nat} {wr : World} {l : List Ed} {p : Option Addr} {n cap : Nat} {cs : List Value} {F : List Nat} (h : RowE base wr l p n cap cs F) : AreCells wr (blkOf (.slice p n cap) ++ F) := (own_cells h.2.1).app h.2.2.1.cells'
theorem RowE.lt {base : Nat} {wr : World} {l : List Ed} {p : Option Addr} {n cap : Nat} {cs : List Value} {F : List Nat} (h : RowE base wr l p n cap cs F) : ∀ g ∈ blkOf (.slice p n cap) ++ F, base ≤ g ∧ g < wr.heap.size := fun g hg =>
  (List.mem_append.1 hg).elim (blkOf_own h.2.1 g) (h.2.2.1.lt g)
theorem RowE.move {base : Nat} {wr w' : World} {l : List Ed} {p : Option Addr} {n cap : Nat} {cs : List Value} {F : List Nat} (h : RowE base wr l p n cap cs F) (e : ∀ g ∈ blkOf (.slice p n cap) ++ F, w'.heap[g]? = wr.heap[g]?) : RowE base w' l p n cap cs F :=
  ⟨h.1, own_block h.2.1 fun g hg => e g (List.mem_append_left _ hg), h.2.2.1.move (Nat.le_refl _) fun g hg => e g (List.mem_append_right _ hg), h.2.2.2⟩
theorem RowE.below {base : Nat} {wr w' : World} {l : List Ed} {p : Option Addr} {n cap : Nat} {cs : List Value} {F : List Nat} (h : RowE base wr l p n cap cs F) (hb : Below wr.heap.size wr w') : RowE base w' l p n cap cs F :=
  h.move fun g hg => hb.block g (h.lt g hg).2
theorem rowe_nil (base : Nat) (w : World) : RowE base w [] none 0 0 [] [] := ⟨rfl, World.ownsRow_nil _ _ _ _, by simp [OwnAllE], by simp [blkOf]⟩
theorem rowe_push {base : Nat} {w1 w2 : World} {l : List Ed} {t : Ed} {p p' : Option Addr} {n cap cap' B1 : Nat} {cs : List Value} {F F1 : List Nat} {c0 c1 c2 c3 c4 c5 c6 c7 c8 c9 c10 c11 c12 : Value} (hI : RowE base w1 l p n cap cs F) (h1 : OwnEd w1 B1 t (.agg #[c0, c1, c2, c3, c4, c5, c6, c7, c8, c9, c10, c11, c12]) F1) (hn1 : F1.Nodup) (hB1 : base ≤ B1)
    (hd : ∀ g ∈ F1, g ∉ blkOf (.slice p n cap) ∧ g ∉ F) (hv : w2.ownsRow base 33 13 (.slice p' (n + 1) cap') (n + 1) (cs ++ [c0, c1, c2, c3, c4, c5, c6, c7, c8, c9, c10, c11, c12])) (hy : Only (blkOf (.slice p n cap)) w1 w2) (hq : ∀ q ∈ blkOf (.slice p' (n + 1) cap'), q ∈ blkOf (.slice p n cap) ∨ w1.heap.size ≤ q) :
    RowE base w2 (l ++ [t]) p' (n + 1) cap' (cs ++ [c0, c1, c2, c3, c4, c5, c6, c7, c8, c9, c10, c11, c12]) (F ++ F1) := by
  obtain ⟨h0, hr, hA, hN⟩ := hI
  obtain ⟨hN1, hN2, hN3⟩ := List.nodup_append.1 hN
  have lF := hA.lt
  have lF1 := OwnEd.blocks h1
  have hA' : OwnAllE w2 base l cs F := hA.move (Nat.le_refl _) fun g hg => hy.block g (lF g hg).2 fun hm => hN3 g hm g hg rfl
  have h1' : OwnEd w2 base t (.agg #[c0, c1, c2, c3, c4, c5, c6, c7, c8, c9, c10, c11, c12]) F1 := OwnEd.move hB1 (fun g hg => hy.block g (lF1 g hg).2 (hd g hg).1) h1
  refine ⟨by simp [h0], hv, hA'.snoc h1', ?_⟩
  refine List.nodup_append.2 ⟨blk_nodup _ _ _, List.nodup_append.2 ⟨hN2, hn1, fun a ha c hc e => (hd c hc).2 (e ▸ ha)⟩, fun a ha c hc e => ?_⟩
  subst e
  rcases hq a ha with hm | hm
  · rcases List.mem_append.1 hc with hc | hc
    · exact hN3 a hm a hc rfl
    · exact (hd a hc).1 hm
  · rcases List.mem_append.1 hc with hc | hc
    · have := (lF a hc).2; omega
    · have := (lF1 a hc).2; omega

/-- What undoes Edits, the last one first. -/
def backsR (l : List Ed) : List Ed := if l.length ≤ 400 ∧ l.all edOk = true then (l.map undoneR).reverse else []
def EdsPost (l : List Ed) (w : World) (e : Ending) (w' : World) : Prop := ∃ p n cap cs F, e = .returned (.slice p n cap) ∧ EdsInv w w' l p n cap cs F
theorem eds_empty (w w' : World) (hb : Below w.heap.size w w') : EdsInv w (w'.alloc (.cells #[] 33)) [] (some ⟨w'.heap.size, 0, none⟩) 0 0 [] [] :=
  ⟨rfl, ⟨rfl, .inr ⟨w'.heap.size, 0, #[], rfl, hb.size, Go.Deep.blk_alloc_new _ _, Nat.le_refl _, by decide, rfl, rfl⟩⟩, by simp [OwnAllE], by simp [blkOf], hb.alloc hb.size _⟩
theorem backs_no {l : List Ed} {j : Nat} (h : j < l.length) (hn : edOk l[j] = false) : backsR l = [] := by
  unfold backsR
  rw [if_neg]
  rintro ⟨_, ha⟩
  have := List.all_eq_true.1 ha l[j] (List.getElem_mem h)
  rw [hn] at this; cases this

end Go.Proofs.YtfdhmkmeffgkgaaDoor
