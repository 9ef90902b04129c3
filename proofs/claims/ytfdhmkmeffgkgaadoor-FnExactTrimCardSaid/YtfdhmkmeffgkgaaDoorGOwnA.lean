/- Shapes that lie in memory of a call's own: each list in a block of its own. · Vals that lie in memory of a call's own: each list in a block of its own. -/
import Derived.Test.YtfdhmkmeffgkgaaDoorGShVa
import Derived.Test.YtfdhmkmeffgkgaaDoorRows
import Derived.Laws.AppendOwn
import Derived.Laws.MakeOwn
import Derived.Laws.OwnMore
import Derived.Below
import Derived.Laws.Rows
import Derived.Deep.QuietTactic
import Derived.Deep.OwnRows
namespace Go.Proofs.YtfdhmkmeffgkgaaDoor
open Go.RowKit

/-- The block that a slice leads to. -/
def blkOf : Value → List Nat
  | .slice (some a) _ _ => [a.block]
  | _ => []
theorem blkOf_own {w : World} {base T sz n : Nat} {v : Value} {xs : List Value} (h : w.ownsRow base T sz v n xs) : ∀ g ∈ blkOf v, base ≤ g ∧ g < w.heap.size := by
  rcases h.2 with ⟨rfl, _⟩ | ⟨g, cap, cur, rfl, hb, hg, _⟩
  · intro g hg; cases hg
  · intro g' hg'
    simp [blkOf] at hg'
    subst hg'
    exact ⟨hb, (Array.getElem?_eq_some_iff.1 hg).1⟩
theorem own_block {w w' : World} {base T sz n : Nat} {v : Value} {xs : List Value} (h : w.ownsRow base T sz v n xs) (e : ∀ g ∈ blkOf v, w'.heap[g]? = w.heap[g]?) : w'.ownsRow base T sz v n xs := by
  refine ⟨h.1, ?_⟩
  rcases h.2 with h | ⟨g, cap, cur, rfl, hb, hg, r⟩
  · exact .inl h
  · exact .inr ⟨g, cap, cur, rfl, hb, by rw [e g (by simp [blkOf])]; exact hg, r⟩
theorem own_mono {w : World} {base base' T sz n : Nat} {v : Value} {xs : List Value} (h : w.ownsRow base T sz v n xs) (hb : base' ≤ base) : w.ownsRow base' T sz v n xs := by
  refine ⟨h.1, ?_⟩
  rcases h.2 with h | ⟨g, cap, cur, rfl, hb', r⟩
  · exact .inl h
  · exact .inr ⟨g, cap, cur, rfl, by omega, r⟩

/-- A slice of strings of the call's own. -/
def OwnStrs (w : World) (base : Nat) (v : Value) (l : List ByteArray) : Prop :=
  (∀ s ∈ l, s.size ≤ 9223372036854775807) ∧ w.ownsRow base 9 1 v l.length (l.map Value.string)

mutual
/-- A shape of the call's own, F the blocks that it goes through. -/
def OwnSh (w : World) (base : Nat) : Sh → Value → List Nat → Prop
  | .mk k sy na su, v, F => ∃ vs vn vp cs Fs, v = .agg #[.int .i64 k, vs, vn, vp] ∧ InI64' k ∧ OwnStrs w base vs sy ∧ OwnStrs w base vn na ∧
      w.ownsRow base 31 4 vp su.length cs ∧ OwnAll w base su cs Fs ∧ F = blkOf vs ++ (blkOf vn ++ (blkOf vp ++ Fs))
/-- .. and a row of them. -/
def OwnAll (w : World) (base : Nat) : List Sh → List Value → List Nat → Prop
  | [], cs, F => cs = [] ∧ F = []
  | x :: l, cs, F => ∃ c0 c1 c2 c3 cs' F1 F2, cs = c0 :: c1 :: c2 :: c3 :: cs' ∧ OwnSh w base x (.agg #[c0, c1, c2, c3]) F1 ∧ OwnAll w base l cs' F2 ∧ F = F1 ++ F2
end

theorem OwnSh.parts {w : World} {base : Nat} {k : Int} {sy na : List ByteArray} {su : List Sh} {v : Value} {F : List Nat} (h : OwnSh w base (.mk k sy na su) v F) :
    ∃ vs vn vp cs Fs, v = .agg #[.int .i64 k, vs, vn, vp] ∧ InI64' k ∧ OwnStrs w base vs sy ∧ OwnStrs w base vn na ∧
      w.ownsRow base 31 4 vp su.length cs ∧ OwnAll w base su cs Fs ∧ F = blkOf vs ++ (blkOf vn ++ (blkOf vp ++ Fs)) := by
  simpa only [OwnSh] using h

theorem OwnAll.blocks {w : World} {base : Nat} : ∀ {l : List Sh} {cs : List Value} {F : List Nat}, (∀ x ∈ l, ∀ v F, OwnSh w base x v F → ∀ g ∈ F, base ≤ g ∧ g < w.heap.size) → OwnAll w base l cs F → ∀ g ∈ F, base ≤ g ∧ g < w.heap.size
  | [], cs, F, _, h => by
    simp only [OwnAll] at h
    rw [h.2]; intro g hg; cases hg
  | x :: l, cs, F, hx, h => by
    simp only [OwnAll] at h
    obtain ⟨c0, c1, c2, c3, cs', F1, F2, _, h1, h2, rfl⟩ := h
    intro g hg
    rcases List.mem_append.1 hg with hg | hg
    · exact hx x (by simp) _ _ h1 g hg
    · exact OwnAll.blocks (fun y hy => hx y (by simp [hy])) h2 g hg
theorem OwnSh.blocks {w : World} {base : Nat} : ∀ (t : Sh) (v : Value) (F : List Nat), OwnSh w base t v F → ∀ g ∈ F, base ≤ g ∧ g < w.heap.size := by
  refine Sh.ind fun k sy na su ih v F h => ?_
  obtain ⟨vs, vn, vp, cs, Fs, rfl, _, h2, h3, h4, h5, rfl⟩ := h.parts
  intro g hg
  simp only [List.mem_append] at hg
  rcases hg with hg | hg | hg | hg
  · exact blkOf_own h2.2 g hg
  · exact blkOf_own h3.2 g hg
  · exact blkOf_own h4 g hg
  · exact OwnAll.blocks ih h5 g hg
theorem OwnAll.lt {w : World} {base : Nat} {l : List Sh} {cs : List Value} {F : List Nat} (h : OwnAll w base l cs F) : ∀ g ∈ F, base ≤ g ∧ g < w.heap.size :=
  OwnAll.blocks (fun x _ => OwnSh.blocks x) h
theorem OwnAll.len {w : World} {base : Nat} : ∀ {l : List Sh} {cs : List Value} {F : List Nat}, OwnAll w base l cs F → cs.length = l.length * 4
  | [], cs, F, h => by simp only [OwnAll] at h; rw [h.1]; rfl
  | x :: l, cs, F, h => by
    simp only [OwnAll] at h
    obtain ⟨c0, c1, c2, c3, cs', F1, F2, rfl, _, h2, _⟩ := h
    have := h2.len
    simp only [List.length_cons]; omega

theorem OwnAll.move' {w w' : World} {base base' : Nat} (hb : base' ≤ base) : ∀ {l : List Sh} {cs : List Value} {F : List Nat}, (∀ x ∈ l, ∀ v F, (∀ g ∈ F, w'.heap[g]? = w.heap[g]?) → OwnSh w base x v F → OwnSh w' base' x v F) → (∀ g ∈ F, w'.heap[g]? = w.heap[g]?) → OwnAll w base l cs F → OwnAll w' base' l cs F
  | [], cs, F, _, _, h => by simpa only [OwnAll] using h
  | x :: l, cs, F, hx, e, h => by
    simp only [OwnAll] at h ⊢
    obtain ⟨c0, c1, c2, c3, cs', F1, F2, rfl, h1, h2, rfl⟩ := h
    exact ⟨c0, c1, c2, c3, cs', F1, F2, rfl, hx x (by simp) _ _ (fun g hg => e g (by simp [hg])) h1, OwnAll.move' hb (fun y hy => hx y (by simp [hy])) (fun g hg => e g (by simp [hg])) h2, rfl⟩
/-- The same in a world in which these blocks are as they were. -/
theorem OwnSh.move {w w' : World} {base base' : Nat} (hb : base' ≤ base) : ∀ (t : Sh) (v : Value) (F : List Nat), (∀ g ∈ F, w'.heap[g]? = w.heap[g]?) → OwnSh w base t v F → OwnSh w' base' t v F := by
  refine Sh.ind fun k sy na su ih v F e h => ?_
  obtain ⟨vs, vn, vp, cs, Fs, rfl, h1, h2, h3, h4, h5, rfl⟩ := h.parts
  simp only [OwnSh]
  exact ⟨vs, vn, vp, cs, Fs, rfl, h1, ⟨h2.1, own_mono (own_block h2.2 fun g hg => e g (by simp [hg])) hb⟩, ⟨h3.1, own_mono (own_block h3.2 fun g hg => e g (by simp [hg])) hb⟩,
    own_mono (own_block h4 fun g hg => e g (by simp [hg])) hb, OwnAll.move' hb ih (fun g hg => e g (by simp [hg])) h5, rfl⟩
theorem OwnAll.move {w w' : World} {base base' : Nat} (hb : base' ≤ base) {l : List Sh} {cs : List Value} {F : List Nat} (e : ∀ g ∈ F, w'.heap[g]? = w.heap[g]?) (h : OwnAll w base l cs F) : OwnAll w' base' l cs F :=
  OwnAll.move' hb (fun x _ => OwnSh.move hb x) e h
theorem OwnAll.snoc {w : World} {base : Nat} : ∀ {l : List Sh} {cs : List Value} {F : List Nat} {x : Sh} {c0 c1 c2 c3 : Value} {F1 : List Nat}, OwnAll w base l cs F → OwnSh w base x (.agg #[c0, c1, c2, c3]) F1 → OwnAll w base (l ++ [x]) (cs ++ [c0, c1, c2, c3]) (F ++ F1)
  | [], cs, F, x, c0, c1, c2, c3, F1, h, hx => by
    simp only [OwnAll] at h
    obtain ⟨rfl, rfl⟩ := h
    simp only [List.nil_append, OwnAll]
    exact ⟨c0, c1, c2, c3, [], F1, [], rfl, hx, ⟨rfl, rfl⟩, by simp⟩
  | y :: l, cs, F, x, c0, c1, c2, c3, F1, h, hx => by
    simp only [OwnAll] at h
    obtain ⟨d0, d1, d2, d3, cs', G1, G2, rfl, h1, h2, rfl⟩ := h
    simp only [List.cons_append, OwnAll]
    exact ⟨d0, d1, d2, d3, _, G1, _, rfl, h1, h2.snoc hx, by simp⟩

theorem OwnStrs.is {w : World} {base : Nat} {v : Value} {l : List ByteArray} (h : OwnStrs w base v l) : IsStrs w v l := by
  obtain ⟨hs, hl, h⟩ := h
  rcases h with ⟨rfl, h0⟩ | ⟨g, cap, cur, rfl, _, hg, hn, hc, hsz, ht⟩
  · have : l = [] := List.eq_nil_of_length_eq_zero h0
    subst this
    exact ⟨by simp, hs, none, 0, rfl, by simp, by simp, .inl rfl⟩
  · unfold maxLen at hc
    refine ⟨by omega, hs, _, cap, rfl, hn, by omega, .inr ⟨g, 0, rfl, fun i hi => ?_⟩⟩
    rw [Nat.mul_one] at ht
    have : cur[i]? = some (.string l[i]) := by
      rw [← Array.getElem?_toList]
      have e : (cur.toList.take l.length)[i]? = cur.toList[i]? := List.getElem?_take_of_lt hi
      rw [← e, ht]; simp [List.getElem?_eq_getElem hi]
    simp [World.cell?, hg, this]

theorem OwnAll.at {w : World} {base : Nat} : ∀ {l : List Sh} {cs : List Value} {F : List Nat}, OwnAll w base l cs F → ∀ i (h : i < l.length), ∃ c0 c1 c2 c3 F1, cs[i * 4]? = some c0 ∧ cs[i * 4 + 1]? = some c1 ∧ cs[i * 4 + 2]? = some c2 ∧ cs[i * 4 + 3]? = some c3 ∧ OwnSh w base l[i] (.agg #[c0, c1, c2, c3]) F1
  | [], _, _, _, _, h => by cases h
  | x :: l, cs, F, h, i, hi => by
    simp only [OwnAll] at h
    obtain ⟨c0, c1, c2, c3, cs', F1, F2, rfl, h1, h2, rfl⟩ := h
    cases i with
    | zero => exact ⟨c0, c1, c2, c3, F1, rfl, rfl, rfl, rfl, h1⟩
    | succ i =>
      obtain ⟨d0, d1, d2, d3, G, g0, g1, g2, g3, g4⟩ := h2.at i (by simpa using hi)
      have e : (i + 1) * 4 = i * 4 + 4 := by omega
      refine ⟨d0, d1, d2, d3, G, ?_, ?_, ?_, ?_, g4⟩ <;> rw [e] <;> simpa using ‹_›
theorem OwnSh.is {w : World} {base : Nat} : ∀ (t : Sh) (v : Value) (F : List Nat), OwnSh w base t v F → IsSh w t v := by
  refine Sh.ind fun k sy na su ih v F h => ?_
  obtain ⟨vs, vn, vp, cs, Fs, rfl, h1, h2, h3, h4, h5, rfl⟩ := h.parts
  refine IsSh.mk h1 h2.is h3.is ?_
  rcases h4 with ⟨hl, ⟨rfl, h0⟩ | ⟨g, cap, cur, rfl, _, hg, hn, hc, hsz, ht⟩⟩
  · have : su = [] := List.eq_nil_of_length_eq_zero h0
    subst this
    exact ⟨none, 0, rfl, by simp, by simp, .inl rfl⟩
  · unfold maxLen at hc
    refine ⟨_, cap, rfl, hn, by omega, .inr ⟨g, 0, rfl, ShAt.of_get fun i hi => ?_⟩⟩
    obtain ⟨c0, c1, c2, c3, F1, g0, g1, g2, g3, g4⟩ := h5.at i hi
    have key : ∀ j c, cs[j]? = some c → w.cell? ⟨g, j, none⟩ = some c := fun j c hj => by
      have hlt : j < cs.length := (List.getElem?_eq_some_iff.1 hj).1
      have e : (cur.toList.take (su.length * 4))[j]? = cur.toList[j]? := List.getElem?_take_of_lt (by omega)
      rw [ht, hj] at e
      simp [World.cell?, hg, ← Array.getElem?_toList, ← e]
    exact ⟨c0, c1, c2, c3, by simpa using key _ _ g0, by simpa using key _ _ g1, by simpa using key _ _ g2, by simpa using key _ _ g3, ih _ (List.getElem_mem _) _ _ g4⟩

theorem IsStrs.slice {w : World} {v : Value} {l : List ByteArray} (h : IsStrs w v l) : ∃ p n m, v = .slice p n m := by
  obtain ⟨_, _, a, cap, rfl, _⟩ := h; exact ⟨_, _, _, rfl⟩
/-- The four cells of a shape. -/
theorem IsSh.cells {w : World} {t : Sh} {c0 c1 c2 c3 : Value} (h : IsSh w t (.agg #[c0, c1, c2, c3])) :
    ∃ p1 n1 m1 p2 n2 m2 p3 n3 m3, c0 = .int .i64 t.kd ∧ c1 = .slice p1 n1 m1 ∧ c2 = .slice p2 n2 m2 ∧ c3 = .slice p3 n3 m3 := by
  cases t with | mk k sy na su =>
    obtain ⟨vs, vn, vp, he, _, h1, h2, a, cap, h3, _⟩ := h.parts
    obtain ⟨p1, n1, m1, g1⟩ := h1.slice
    obtain ⟨p2, n2, m2, g2⟩ := h2.slice
    simp only [Value.agg.injEq, Array.mk.injEq, List.cons.injEq, and_true] at he
    obtain ⟨e0, e1, e2, e3⟩ := he
    exact ⟨p1, n1, m1, p2, n2, m2, _, _, _, e0, e1.trans g1, e2.trans g2, e3.trans h3⟩

/-- The cells of a block of four. -/
theorem blk4 {w : World} {b : Nat} {T : TypeId} {c0 c1 c2 c3 : Value} (h : w.heap[b]? = some (.cells #[c0, c1, c2, c3] T (0, 0))) :
    w.cell? ⟨b, 0, none⟩ = some c0 ∧ w.cell? ⟨b, 1, none⟩ = some c1 ∧ w.cell? ⟨b, 2, none⟩ = some c2 ∧ w.cell? ⟨b, 3, none⟩ = some c3 ∧ w.frozen? ⟨b, 0, none⟩ = false ∧ w.frozen? ⟨b, 1, none⟩ = false ∧ w.frozen? ⟨b, 2, none⟩ = false ∧ w.frozen? ⟨b, 3, none⟩ = false ∧ b < w.heap.size := by
  refine ⟨?_, ?_, ?_, ?_, ?_, ?_, ?_, ?_, (Array.getElem?_eq_some_iff.1 h).1⟩ <;> simp [World.cell?, World.frozen?, h]
theorem blk_set {w : World} {b : Nat} {T : TypeId} {c : Array Value} (h : w.heap[b]? = some (.cells c T (0, 0))) (i : Nat) (v : Value) : (w.setCell ⟨b, i, none⟩ v).heap[b]? = some (.cells (c.setIfInBounds i v) T (0, 0)) :=
  Go.heap_setCell_same w b i c T v h
theorem blk_other {w : World} {b g i : Nat} {o : Obj} (h : w.heap[b]? = some o) (hne : b ≠ g) (v : Value) : (w.setCell ⟨g, i, none⟩ v).heap[b]? = some o := by
  rw [Below.heap_setCell _ _ _ _ hne]; exact h
theorem blk_below {w w' : World} {B b : Nat} {o : Obj} (h : w.heap[b]? = some o) (hb : Below B w w') (hlt : b < B) : w'.heap[b]? = some o := by
  rw [hb.block b hlt]; exact h
theorem size_set (w : World) (a : Addr) (v : Value) : (w.setCell a v).heap.size = w.heap.size := by simp [World.setCell]
theorem three_new (w : World) (o1 o2 o3 : Obj) : (((w.alloc o1).alloc o2).alloc o3).heap[w.heap.size]? = some o1 ∧ (((w.alloc o1).alloc o2).alloc o3).heap[w.heap.size + 1]? = some o2 ∧ (((w.alloc o1).alloc o2).alloc o3).heap[w.heap.size + 1 + 1]? = some o3 := by
  refine ⟨?_, ?_, ?_⟩
  · rw [Below.heap_alloc _ _ _ (by simp; omega), Below.heap_alloc _ _ _ (by simp)]; exact Go.Deep.blk_alloc_new _ _
  · rw [Below.heap_alloc _ _ _ (by simp)]
    have := Go.Deep.blk_alloc_new (w.alloc o1) o2
    simpa using this
  · have := Go.Deep.blk_alloc_new ((w.alloc o1).alloc o2) o3
    simpa using this
theorem two_new (w : World) (o1 o2 : Obj) : ((w.alloc o1).alloc o2).heap[w.heap.size]? = some o1 ∧ ((w.alloc o1).alloc o2).heap[w.heap.size + 1]? = some o2 := by
  refine ⟨?_, ?_⟩
  · rw [Below.heap_alloc _ _ _ (by simp)]; exact Go.Deep.blk_alloc_new _ _
  · have := Go.Deep.blk_alloc_new (w.alloc o1) o2
    simpa using this
/-- A new block keeps what was. -/
theorem keeps_alloc (w : World) (o : Obj) : Keeps w (w.alloc o) := Keeps.of_below ((Below.refl _ _).alloc (Nat.le_refl _) _)
theorem below_alloc (w : World) (o : Obj) : Below w.heap.size w (w.alloc o) := (Below.refl _ _).alloc (Nat.le_refl _) _
theorem below_drewN {B : Nat} {a w : World} (h : Below B a w) (n : Nat) : Below B a (w.drewN n) := ⟨h.os, h.tape, h.output, h.size, h.block⟩
theorem keeps_drew {w : World} : Keeps w w.drew := fun _ _ _ h => h
theorem keeps_drewN {w : World} {n : Nat} : Keeps w (w.drewN n) := fun _ _ _ h => h
end Go.Proofs.YtfdhmkmeffgkgaaDoor
namespace Go.Proofs.YtfdhmkmeffgkgaaDoor
open Go.RowKit

mutual
/-- A Val of the call's own, F the blocks that it goes through. -/
def OwnVa (w : World) (base : Nat) : Va → Value → List Nat → Prop
  | .mk k n t it, v, F => ∃ vp cs Fs, v = .agg #[.int .i64 k, .int .i64 n, .string t, vp] ∧ InI64' k ∧ InI64' n ∧ t.size ≤ 9223372036854775807 ∧
      w.ownsRow base 125 4 vp it.length cs ∧ OwnVas w base it cs Fs ∧ F = blkOf vp ++ Fs
/-- .. and a row of them. -/
def OwnVas (w : World) (base : Nat) : List Va → List Value → List Nat → Prop
  | [], cs, F => cs = [] ∧ F = []
  | x :: l, cs, F => ∃ c0 c1 c2 c3 cs' F1 F2, cs = c0 :: c1 :: c2 :: c3 :: cs' ∧ OwnVa w base x (.agg #[c0, c1, c2, c3]) F1 ∧ OwnVas w base l cs' F2 ∧ F = F1 ++ F2
end

theorem OwnVa.parts {w : World} {base : Nat} {k n : Int} {t : ByteArray} {it : List Va} {v : Value} {F : List Nat} (h : OwnVa w base (.mk k n t it) v F) :
    ∃ vp cs Fs, v = .agg #[.int .i64 k, .int .i64 n, .string t, vp] ∧ InI64' k ∧ InI64' n ∧ t.size ≤ 9223372036854775807 ∧
      w.ownsRow base 125 4 vp it.length cs ∧ OwnVas w base it cs Fs ∧ F = blkOf vp ++ Fs := by
  simpa only [OwnVa] using h

theorem OwnVas.blocks {w : World} {base : Nat} : ∀ {l : List Va} {cs : List Value} {F : List Nat}, (∀ x ∈ l, ∀ v F, OwnVa w base x v F → ∀ g ∈ F, base ≤ g ∧ g < w.heap.size) → OwnVas w base l cs F → ∀ g ∈ F, base ≤ g ∧ g < w.heap.size
  | [], cs, F, _, h => by
    simp only [OwnVas] at h
    rw [h.2]; intro g hg; cases hg
  | x :: l, cs, F, hx, h => by
    simp only [OwnVas] at h
    obtain ⟨c0, c1, c2, c3, cs', F1, F2, _, h1, h2, rfl⟩ := h
    intro g hg
    rcases List.mem_append.1 hg with hg | hg
    · exact hx x (by simp) _ _ h1 g hg
    · exact OwnVas.blocks (fun y hy => hx y (by simp [hy])) h2 g hg
theorem OwnVa.blocks {w : World} {base : Nat} : ∀ (t : Va) (v : Value) (F : List Nat), OwnVa w base t v F → ∀ g ∈ F, base ≤ g ∧ g < w.heap.size := by
  refine Va.ind fun k n t it ih v F h => ?_
  obtain ⟨vp, cs, Fs, rfl, _, _, _, h4, h5, rfl⟩ := h.parts
  intro g hg
  simp only [List.mem_append] at hg
  rcases hg with hg | hg
  · exact blkOf_own h4 g hg
  · exact OwnVas.blocks ih h5 g hg
theorem OwnVas.lt {w : World} {base : Nat} {l : List Va} {cs : List Value} {F : List Nat} (h : OwnVas w base l cs F) : ∀ g ∈ F, base ≤ g ∧ g < w.heap.size :=
  OwnVas.blocks (fun x _ => OwnVa.blocks x) h
theorem OwnVas.len {w : World} {base : Nat} : ∀ {l : List Va} {cs : List Value} {F : List Nat}, OwnVas w base l cs F → cs.length = l.length * 4
  | [], cs, F, h => by simp only [OwnVas] at h; rw [h.1]; rfl
  | x :: l, cs, F, h => by
    simp only [OwnVas] at h
    obtain ⟨c0, c1, c2, c3, cs', F1, F2, rfl, _, h2, _⟩ := h
    have := h2.len
    simp only [List.length_cons]; omega

theorem OwnVas.move' {w w' : World} {base base' : Nat} : ∀ {l : List Va} {cs : List Value} {F : List Nat}, (∀ x ∈ l, ∀ v F, (∀ g ∈ F, w'.heap[g]? = w.heap[g]?) → OwnVa w base x v F → OwnVa w' base' x v F) → (∀ g ∈ F, w'.heap[g]? = w.heap[g]?) → OwnVas w base l cs F → OwnVas w' base' l cs F
  | [], cs, F, _, _, h => by simpa only [OwnVas] using h
  | x :: l, cs, F, hx, e, h => by
    simp only [OwnVas] at h ⊢
    obtain ⟨c0, c1, c2, c3, cs', F1, F2, rfl, h1, h2, rfl⟩ := h
    exact ⟨c0, c1, c2, c3, cs', F1, F2, rfl, hx x (by simp) _ _ (fun g hg => e g (by simp [hg])) h1, OwnVas.move' (fun y hy => hx y (by simp [hy])) (fun g hg => e g (by simp [hg])) h2, rfl⟩
/-- The same in a world in which these blocks are as they were. -/
theorem OwnVa.move {w w' : World} {base base' : Nat} (hb : base' ≤ base) : ∀ (t : Va) (v : Value) (F : List Nat), (∀ g ∈ F, w'.heap[g]? = w.heap[g]?) → OwnVa w base t v F → OwnVa w' base' t v F := by
  refine Va.ind fun k n t it ih v F e h => ?_
  obtain ⟨vp, cs, Fs, rfl, h1, h2, h3, h4, h5, rfl⟩ := h.parts
  simp only [OwnVa]
  exact ⟨vp, cs, Fs, rfl, h1, h2, h3, own_mono (own_block h4 fun g hg => e g (by simp [hg])) hb, OwnVas.move' ih (fun g hg => e g (by simp [hg])) h5, rfl⟩
theorem OwnVas.move {w w' : World} {base base' : Nat} (hb : base' ≤ base) {l : List Va} {cs : List Value} {F : List Nat} (e : ∀ g ∈ F, w'.heap[g]? = w.heap[g]?) (h : OwnVas w base l cs F) : OwnVas w' base' l cs F :=
  OwnVas.move' (fun x _ => OwnVa.move hb x) e h
theorem OwnVas.snoc {w : World} {base : Nat} : ∀ {l : List Va} {cs : List Value} {F : List Nat} {x : Va} {c0 c1 c2 c3 : Value} {F1 : List Nat}, OwnVas w base l cs F → OwnVa w base x (.agg #[c0, c1, c2, c3]) F1 → OwnVas w base (l ++ [x]) (cs ++ [c0, c1, c2, c3]) (F ++ F1)
  | [], cs, F, x, c0, c1, c2, c3, F1, h, hx => by
    simp only [OwnVas] at h
    obtain ⟨rfl, rfl⟩ := h
    simp only [List.nil_append, OwnVas]
    exact ⟨c0, c1, c2, c3, [], F1, [], rfl, hx, ⟨rfl, rfl⟩, by simp⟩
  | y :: l, cs, F, x, c0, c1, c2, c3, F1, h, hx => by
    simp only [OwnVas] at h
    obtain ⟨d0, d1, d2, d3, cs', G1, G2, rfl, h1, h2, rfl⟩ := h
    simp only [List.cons_append, OwnVas]
    exact ⟨d0, d1, d2, d3, _, G1, _, rfl, h1, h2.snoc hx, by simp⟩
theorem OwnVas.at {w : World} {base : Nat} : ∀ {l : List Va} {cs : List Value} {F : List Nat}, OwnVas w base l cs F → ∀ i (h : i < l.length), ∃ c0 c1 c2 c3 F1, cs[i * 4]? = some c0 ∧ cs[i * 4 + 1]? = some c1 ∧ cs[i * 4 + 2]? = some c2 ∧ cs[i * 4 + 3]? = some c3 ∧ OwnVa w base l[i] (.agg #[c0, c1, c2, c3]) F1
  | [], _, _, _, _, h => by cases h
  | x :: l, cs, F, h, i, hi => by
    simp only [OwnVas] at h
    obtain ⟨c0, c1, c2, c3, cs', F1, F2, rfl, h1, h2, rfl⟩ := h
    cases i with
    | zero => exact ⟨c0, c1, c2, c3, F1, rfl, rfl, rfl, rfl, h1⟩
    | succ i =>
      obtain ⟨d0, d1, d2, d3, G, g0, g1, g2, g3, g4⟩ := h2.at i (by simpa using hi)
      have e : (i + 1) * 4 = i * 4 + 4 := by omega
      refine ⟨d0, d1, d2, d3, G, ?_, ?_, ?_, ?_, g4⟩ <;> rw [e] <;> simpa using ‹_›
theorem OwnVa.is {w : World} {base : Nat} : ∀ (t : Va) (v : Value) (F : List Nat), OwnVa w base t v F → IsVa w t v := by
  refine Va.ind fun k n t it ih v F h => ?_
  obtain ⟨vp, cs, Fs, rfl, h1, h2, h3, h4, h5, rfl⟩ := h.parts
  refine IsVa.mk h1 h2 h3 ?_
  rcases h4 with ⟨hl, ⟨rfl, h0⟩ | ⟨g, cap, cur, rfl, _, hg, hn, hc, hsz, ht⟩⟩
  · have : it = [] := List.eq_nil_of_length_eq_zero h0
    subst this
    exact ⟨none, 0, rfl, by simp, by simp, .inl rfl⟩
  · unfold maxLen at hc
    refine ⟨_, cap, rfl, hn, by omega, .inr ⟨g, 0, rfl, VaAt.of_get fun i hi => ?_⟩⟩
    obtain ⟨c0, c1, c2, c3, F1, g0, g1, g2, g3, g4⟩ := h5.at i hi
    have key : ∀ j c, cs[j]? = some c → w.cell? ⟨g, j, none⟩ = some c := fun j c hj => by
      have hlt : j < cs.length := (List.getElem?_eq_some_iff.1 hj).1
      have e : (cur.toList.take (it.length * 4))[j]? = cur.toList[j]? := List.getElem?_take_of_lt (by omega)
      rw [ht, hj] at e
      simp [World.cell?, hg, ← Array.getElem?_toList, ← e]
    exact ⟨c0, c1, c2, c3, by simpa using key _ _ g0, by simpa using key _ _ g1, by simpa using key _ _ g2, by simpa using key _ _ g3, ih _ (List.getElem_mem _) _ _ g4⟩
end Go.Proofs.YtfdhmkmeffgkgaaDoor
