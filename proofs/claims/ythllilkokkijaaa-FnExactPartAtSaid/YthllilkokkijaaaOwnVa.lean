/- Vals that lie in memory of a call's own: each list in a block of its own. -/
import Derived.Test.YthllilkokkijaaaVaP
import Derived.Test.YthllilkokkijaaaOwnSh
namespace Go.Proofs.Ythllilkokkijaaa
open Go.RowKit

mutual
/-- A Val of the call's own, F the blocks that it goes through. -/
def OwnVa (w : World) (base : Nat) : Va → Value → List Nat → Prop
  | .mk k n t it, v, F => ∃ vp cs Fs, v = .agg #[.int .i64 k, .int .i64 n, .string t, vp] ∧ InI64' k ∧ InI64' n ∧ t.size ≤ 9223372036854775807 ∧
      w.ownsRow base 112 4 vp it.length cs ∧ OwnVas w base it cs Fs ∧ F = blkOf vp ++ Fs
/-- .. and a row of them. -/
def OwnVas (w : World) (base : Nat) : List Va → List Value → List Nat → Prop
  | [], cs, F => cs = [] ∧ F = []
  | x :: l, cs, F => ∃ c0 c1 c2 c3 cs' F1 F2, cs = c0 :: c1 :: c2 :: c3 :: cs' ∧ OwnVa w base x (.agg #[c0, c1, c2, c3]) F1 ∧ OwnVas w base l cs' F2 ∧ F = F1 ++ F2
end

theorem OwnVa.parts {w : World} {base : Nat} {k n : Int} {t : ByteArray} {it : List Va} {v : Value} {F : List Nat} (h : OwnVa w base (.mk k n t it) v F) :
    ∃ vp cs Fs, v = .agg #[.int .i64 k, .int .i64 n, .string t, vp] ∧ InI64' k ∧ InI64' n ∧ t.size ≤ 9223372036854775807 ∧
      w.ownsRow base 112 4 vp it.length cs ∧ OwnVas w base it cs Fs ∧ F = blkOf vp ++ Fs := by
  simpa only [OwnVa] using h

theorem OwnVas.blocks {w : World} {base : Nat} : ∀ {l : List Va} {cs : List Value} {F : List Nat}, (∀ x ∈ l, ∀ v F, OwnVa w base x v F → ∀ g ∈ F, base ≤ g ∧ g < w.heap.size) → OwnVas w base l cs F → ∀ g ∈ F, base ≤ g ∧ g < w.heap.size
  | [], cs, F, _, h => by
    simp only [OwnVas] at h
    rw [h.2]; intro g hg; cases hg
  | x :: l, cs, F, hx, h => by
    simp only [OwnVas] at h
    obtain ⟨c0, c1, c2, c3, cs', F1, F2, _, h1, h2, rfl⟩ := h
    intro g hg
    rcases List.mem_append.1 hg with hg | hg
    · exact hx x (by simp) _ _ h1 g hg
    · exact OwnVas.blocks (fun y hy => hx y (by simp [hy])) h2 g hg
theorem OwnVa.blocks {w : World} {base : Nat} : ∀ (t : Va) (v : Value) (F : List Nat), OwnVa w base t v F → ∀ g ∈ F, base ≤ g ∧ g < w.heap.size := by
  refine Va.ind fun k n t it ih v F h => ?_
  obtain ⟨vp, cs, Fs, rfl, _, _, _, h4, h5, rfl⟩ := h.parts
  intro g hg
  simp only [List.mem_append] at hg
  rcases hg with hg | hg
  · exact blkOf_own h4 g hg
  · exact OwnVas.blocks ih h5 g hg
theorem OwnVas.lt {w : World} {base : Nat} {l : List Va} {cs : List Value} {F : List Nat} (h : OwnVas w base l cs F) : ∀ g ∈ F, base ≤ g ∧ g < w.heap.size :=
  OwnVas.blocks (fun x _ => OwnVa.blocks x) h
theorem OwnVas.len {w : World} {base : Nat} : ∀ {l : List Va} {cs : List Value} {F : List Nat}, OwnVas w base l cs F → cs.length = l.length * 4
  | [], cs, F, h => by simp only [OwnVas] at h; rw [h.1]; rfl
  | x :: l, cs, F, h => by
    simp only [OwnVas] at h
    obtain ⟨c0, c1, c2, c3, cs', F1, F2, rfl, _, h2, _⟩ := h
    have := h2.len
    simp only [List.length_cons]; omega

theorem OwnVas.move' {w w' : World} {base base' : Nat} : ∀ {l : List Va} {cs : List Value} {F : List Nat}, (∀ x ∈ l, ∀ v F, (∀ g ∈ F, w'.heap[g]? = w.heap[g]?) → OwnVa w base x v F → OwnVa w' base' x v F) → (∀ g ∈ F, w'.heap[g]? = w.heap[g]?) → OwnVas w base l cs F → OwnVas w' base' l cs F
  | [], cs, F, _, _, h => by simpa only [OwnVas] using h
  | x :: l, cs, F, hx, e, h => by
    simp only [OwnVas] at h ⊢
    obtain ⟨c0, c1, c2, c3, cs', F1, F2, rfl, h1, h2, rfl⟩ := h
    exact ⟨c0, c1, c2, c3, cs', F1, F2, rfl, hx x (by simp) _ _ (fun g hg => e g (by simp [hg])) h1, OwnVas.move' (fun y hy => hx y (by simp [hy])) (fun g hg => e g (by simp [hg])) h2, rfl⟩
/-- The same in a world in which these blocks are as they were. -/
theorem OwnVa.move {w w' : World} {base base' : Nat} (hb : base' ≤ base) : ∀ (t : Va) (v : Value) (F : List Nat), (∀ g ∈ F, w'.heap[g]? = w.heap[g]?) → OwnVa w base t v F → OwnVa w' base' t v F := by
  refine Va.ind fun k n t it ih v F e h => ?_
  obtain ⟨vp, cs, Fs, rfl, h1, h2, h3, h4, h5, rfl⟩ := h.parts
  simp only [OwnVa]
  exact ⟨vp, cs, Fs, rfl, h1, h2, h3, own_mono (own_block h4 fun g hg => e g (by simp [hg])) hb, OwnVas.move' ih (fun g hg => e g (by simp [hg])) h5, rfl⟩
theorem OwnVas.move {w w' : World} {base base' : Nat} (hb : base' ≤ base) {l : List Va} {cs : List Value} {F : List Nat} (e : ∀ g ∈ F, w'.heap[g]? = w.heap[g]?) (h : OwnVas w base l cs F) : OwnVas w' base' l cs F :=
  OwnVas.move' (fun x _ => OwnVa.move hb x) e h
theorem OwnVas.snoc {w : World} {base : Nat} : ∀ {l : List Va} {cs : List Value} {F : List Nat} {x : Va} {c0 c1 c2 c3 : Value} {F1 : List Nat}, OwnVas w base l cs F → OwnVa w base x (.agg #[c0, c1, c2, c3]) F1 → OwnVas w base (l ++ [x]) (cs ++ [c0, c1, c2, c3]) (F ++ F1)
  | [], cs, F, x, c0, c1, c2, c3, F1, h, hx => by
    simp only [OwnVas] at h
    obtain ⟨rfl, rfl⟩ := h
    simp only [List.nil_append, OwnVas]
    exact ⟨c0, c1, c2, c3, [], F1, [], rfl, hx, ⟨rfl, rfl⟩, by simp⟩
  | y :: l, cs, F, x, c0, c1, c2, c3, F1, h, hx => by
    simp only [OwnVas] at h
    obtain ⟨d0, d1, d2, d3, cs', G1, G2, rfl, h1, h2, rfl⟩ := h
    simp only [List.cons_append, OwnVas]
    exact ⟨d0, d1, d2, d3, _, G1, _, rfl, h1, h2.snoc hx, by simp⟩
theorem OwnVas.at {w : World} {base : Nat} : ∀ {l : List Va} {cs : List Value} {F : List Nat}, OwnVas w base l cs F → ∀ i (h : i < l.length), ∃ c0 c1 c2 c3 F1, cs[i * 4]? = some c0 ∧ cs[i * 4 + 1]? = some c1 ∧ cs[i * 4 + 2]? = some c2 ∧ cs[i * 4 + 3]? = some c3 ∧ OwnVa w base l[i] (.agg #[c0, c1, c2, c3]) F1
  | [], _, _, _, _, h => by cases h
  | x :: l, cs, F, h, i, hi => by
    simp only [OwnVas] at h
    obtain ⟨c0, c1, c2, c3, cs', F1, F2, rfl, h1, h2, rfl⟩ := h
    cases i with
    | zero => exact ⟨c0, c1, c2, c3, F1, rfl, rfl, rfl, rfl, h1⟩
    | succ i =>
      obtain ⟨d0, d1, d2, d3, G, g0, g1, g2, g3, g4⟩ := h2.at i (by simpa using hi)
      have e : (i + 1) * 4 = i * 4 + 4 := by omega
      refine ⟨d0, d1, d2, d3, G, ?_, ?_, ?_, ?_, g4⟩ <;> rw [e] <;> simpa using ‹_›
theorem OwnVa.is {w : World} {base : Nat} : ∀ (t : Va) (v : Value) (F : List Nat), OwnVa w base t v F → IsVa w t v := by
  refine Va.ind fun k n t it ih v F h => ?_
  obtain ⟨vp, cs, Fs, rfl, h1, h2, h3, h4, h5, rfl⟩ := h.parts
  refine IsVa.mk h1 h2 h3 ?_
  rcases h4 with ⟨hl, ⟨rfl, h0⟩ | ⟨g, cap, cur, rfl, _, hg, hn, hc, hsz, ht⟩⟩
  · have : it = [] := List.eq_nil_of_length_eq_zero h0
    subst this
    exact ⟨none, 0, rfl, by simp, by simp, .inl rfl⟩
  · unfold maxLen at hc
    refine ⟨_, cap, rfl, hn, by omega, .inr ⟨g, 0, rfl, VaAt.of_get fun i hi => ?_⟩⟩
    obtain ⟨c0, c1, c2, c3, F1, g0, g1, g2, g3, g4⟩ := h5.at i hi
    have key : ∀ j c, cs[j]? = some c → w.cell? ⟨g, j, none⟩ = some c := fun j c hj => by
      have hlt : j < cs.length := (List.getElem?_eq_some_iff.1 hj).1
      have e : (cur.toList.take (it.length * 4))[j]? = cur.toList[j]? := List.getElem?_take_of_lt (by omega)
      rw [ht, hj] at e
      simp [World.cell?, hg, ← Array.getElem?_toList, ← e]
    exact ⟨c0, c1, c2, c3, by simpa using key _ _ g0, by simpa using key _ _ g1, by simpa using key _ _ g2, by simpa using key _ _ g3, ih _ (List.getElem_mem _) _ _ g4⟩
end Go.Proofs.Ythllilkokkijaaa
