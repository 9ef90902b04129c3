/- What makers of readings keep to: one statement for what resolves, and for what tells the unread. -/
import Derived.Test.YtnnjhcjalmdmcaaGreatGRdaP
import Derived.Deep.RegionLaw
namespace Go.Proofs.YtnnjhcjalmdmcaaGreat
open Go.RowKit

abbrev RG := (Nat → Prop) → World → (Va → Prop) → (Va → Va × Int) → Option Va → FuncId → Array Value → FuncId → Array Value → Prop
abbrev PRU := (Va → Prop) × (Va → Va × Int) × Option Va
/-- What a maker leaves. -/
def MadeG (G : RG) (X : Nat → Prop) (P : Va → Prop) (R : Va → Va × Int) (U : Option Va) (w : World) (e : Ending) (w' : World) : Prop :=
  ∃ f1 c1 f2 c2, e = .returned (.agg #[fnv f1 c1, fnv f2 c2]) ∧ G X w' P R U f1 c1 f2 c2 ∧ Below w.heap.size w w'
/-- Blocks that may change lie behind z. -/
structure EnvR (X : Nat → Prop) (z w : World) : Prop where
  below : Below z.heap.size z w
  lo : ∀ g, X g → z.heap.size ≤ g
  hi : ∀ g, X g → g < w.heap.size
theorem EnvR.step {X : Nat → Prop} {z w w' : World} (h : EnvR X z w) (hb : Below w.heap.size w w') : EnvR X z w' :=
  ⟨h.below.trans (hb.mono h.below.size), h.lo, fun g hg => Nat.lt_of_lt_of_le (h.hi g hg) hb.size⟩
theorem EnvR.ne {X : Nat → Prop} {z w : World} (h : EnvR X z w) {b : Nat} (hb : w.heap.size ≤ b) : ¬ X b := fun hx => by have := h.hi b hx; omega

structure RM (G : RG) : Prop where
  move : ∀ {X Y : Nat → Prop} {w w' : World} {P R U f1 c1 f2 c2}, G X w P R U f1 c1 f2 c2 → Still X w w' → (∀ g, Y g → X g ∨ w.heap.size ≤ g) → G Y w' P R U f1 c1 f2 c2
  same : ∀ {X : Nat → Prop} {w : World} {P P' : Va → Prop} {R R' : Va → Va × Int} {U U' : Option Va} {f1 c1 f2 c2}, G X w P R U f1 c1 f2 c2 → (∀ u, P' u → P u) → (∀ u, P' u → R' u = R u) → U' = U → G X w P' R' U' f1 c1 f2 c2
  wrap : ∀ {X : Nat → Prop} {w : World} {P R U f1 c1 f2 c2} {b : Nat}, w.heap[b]? = some (.cells #[fnv f1 c1, fnv f2 c2] 67 (0, 0)) → ¬ X b → G X w P R U f1 c1 f2 c2 →
    G X w P (fun u => collR 5 [] [R u]) U 80 #[.pointer (some ⟨b, 0, none⟩)] f2 c2
  unwrap : ∀ {X : Nat → Prop} {w : World} {P R U f1 c1 f2 c2} {b : Nat}, w.heap[b]? = some (.cells #[fnv f1 c1, fnv f2 c2] 67 (0, 0)) → ¬ X b → G X w P R U f1 c1 f2 c2 →
    G X w (fun u => u.it.length ≤ 1 ∧ ∀ x ∈ u.it, P x) (unwrapR R) (some (.mk 5 0 ⟨#[]⟩ [])) 83 #[.pointer (some ⟨b, 0, none⟩)] 84 #[]
  other : ∀ {X : Nat → Prop} {z w : World} {b : Nat} {s : Sh} {c0 c1 c2 c3 : Value} {d : Nat}, d ≤ 5 → partOk d s = true → IsSh z s (.agg #[c0, c1, c2, c3]) → EnvR X z w → w.heap[b]? = some (.cells #[c0, c1, c2, c3] 26 (0, 0)) → ¬ X b →
    G X w (fun _ => True) (fun _ => (zva, 10)) (some (blankB s)) 85 #[] 86 #[.pointer (some ⟨b, 0, none⟩)]
  plain : ∀ {X : Nat → Prop} {w : World}, G X w (fun u => u.tx.size ≤ 8000) (fun u => (.mk u.kd u.nn u.tx [], 0)) none 101 #[] 93 #[]
  pick : ∀ {X : Nat → Prop} {z w : World} {b1 b2 : Nat} {wr kn : List ByteArray} {v1 v2 : Value}, IsStrs z v1 wr → IsStrs z v2 kn → (∀ s ∈ wr, s.size ≤ 8) → (∀ s ∈ kn, s.size ≤ 8) → EnvR X z w → w.heap[b1]? = some (.cells #[v1] 23 (0, 0)) → w.heap[b2]? = some (.cells #[v2] 23 (0, 0)) → ¬ X b1 → ¬ X b2 →
    G X w (fun _ => True) (pickR kn) (pickW wr kn) 88 #[.pointer (some ⟨b2, 0, none⟩)] 91 #[.pointer (some ⟨b1, 0, none⟩), .pointer (some ⟨b2, 0, none⟩)]
  items : ∀ {X : Nat → Prop} {w : World} {P R U f1 c1 f2 c2} {b1 b2 : Nat} {k : Int}, InI64' k → w.heap[b1]? = some (.cells #[.int .i64 k] 2 (0, 0)) → w.heap[b2]? = some (.cells #[fnv f1 c1, fnv f2 c2] 67 (0, 0)) → ¬ X b1 → ¬ X b2 → G X w P R U f1 c1 f2 c2 →
    G X w (fun u => u.it.length ≤ 6 ∧ ∀ x ∈ u.it, P x) (fun u => collR k [] (u.it.map R)) (U.map fun x => .mk k 0 ⟨#[]⟩ [x]) 94 #[.pointer (some ⟨b1, 0, none⟩), .pointer (some ⟨b2, 0, none⟩)] 96 #[.pointer (some ⟨b2, 0, none⟩), .pointer (some ⟨b1, 0, none⟩)]
  newField : ∀ {X : Nat → Prop} {z w : World} {b : Nat} {s : Sh} {c0 c1 c2 c3 : Value} {d : Nat}, d ≤ 5 → partOk d s = true → IsSh z s (.agg #[c0, c1, c2, c3]) → EnvR X z w → w.heap[b]? = some (.cells #[c0, c1, c2, c3] 26 (0, 0)) → ¬ X b →
    G X w (fun _ => True) (fun _ => (blankB s, 0)) none 108 #[.pointer (some ⟨b, 0, none⟩)] 93 #[]
  field : ∀ {X : Nat → Prop} {z w : World} {P R U f1 c1 f2 c2} {b1 b2 b3 : Nat} {na : List ByteArray} {su : List Sh} {c3 c4 c5 c6 : Value} {d j : Nat}, d ≤ 5 → partOk d (.mk 7 [] na su) = true → IsSh z (.mk 7 [] na su) (.agg #[c3, c4, c5, c6]) → EnvR X z w → w.heap[b1]? = some (.cells #[fnv f1 c1, fnv f2 c2] 67 (0, 0)) →
    w.heap[b2]? = some (.cells #[c3, c4, c5, c6] 26 (0, 0)) → w.heap[b3]? = some (.cells #[.int .i64 j] 3 (0, 0)) → ¬ X b1 → ¬ X b2 → ¬ X b3 → j < su.length → G X w P R U f1 c1 f2 c2 →
    G X w (fun u => j < u.it.length ∧ P (u.it.getD j zva)) (fun u => R (u.it.getD j zva)) (U.map fun x => .mk 7 0 ⟨#[]⟩ ((blanks su).set j x)) 106 #[.pointer (some ⟨b1, 0, none⟩), .pointer (some ⟨b3, 0, none⟩)] 107 #[.pointer (some ⟨b1, 0, none⟩), .pointer (some ⟨b2, 0, none⟩), .pointer (some ⟨b3, 0, none⟩)]
  record : ∀ {X : Nat → Prop} {w : World} {b : Nat} {aa : Option Addr} {cc : Nat} {L : List PRU}, w.heap[b]? = some (.cells #[.slice aa L.length cc] 113 (0, 0)) → ¬ X b → L.length ≤ 6 → L.length ≤ cc ∧ cc ≤ 9223372036854775807 →
    (∀ i (h : i < L.length), ∃ (g off : Nat), aa = some ⟨g, off, none⟩ ∧ ¬ X g ∧ ∃ (f1 : FuncId) (c1 : Array Value) (f2 : FuncId) (c2 : Array Value), w.cell? ⟨g, off + i * 2, none⟩ = some (fnv f1 c1) ∧ w.cell? ⟨g, off + i * 2 + 1, none⟩ = some (fnv f2 c2) ∧ G X w L[i].1 L[i].2.1 L[i].2.2 f1 c1 f2 c2) →
    G X w (fun u => ∀ p ∈ L, p.1 u) (fun u => collR 7 [] (L.map fun p => p.2.1 u)) (firstW (L.map fun p => p.2.2)) 98 #[.pointer (some ⟨b, 0, none⟩)] 100 #[.pointer (some ⟨b, 0, none⟩)]

/-- Cells, two by two, each pair a reading of its kind. -/
def RdsG (G : RG) (X : Nat → Prop) (w : World) : List PRU → List Value → Prop
  | [], cs => cs = []
  | p :: l, cs => ∃ f1 c1 f2 c2 cs', cs = fnv f1 c1 :: fnv f2 c2 :: cs' ∧ G X w p.1 p.2.1 p.2.2 f1 c1 f2 c2 ∧ RdsG G X w l cs'
section
variable {G : RG}
theorem RdsG.move (hM : RM G) {X Y : Nat → Prop} {w w' : World} (hs : Still X w w') (hy : ∀ g, Y g → X g ∨ w.heap.size ≤ g) : ∀ {l : List PRU} {cs : List Value}, RdsG G X w l cs → RdsG G Y w' l cs
  | [], cs, h => by simpa only [RdsG] using h
  | x :: l, cs, h => by
    simp only [RdsG] at h ⊢
    obtain ⟨f1, c1, f2, c2, cs', e, h1, h2⟩ := h
    exact ⟨f1, c1, f2, c2, cs', e, hM.move h1 hs hy, RdsG.move hM hs hy h2⟩
theorem RdsG.snoc {X : Nat → Prop} {w : World} : ∀ {l : List PRU} {cs : List Value} {p : PRU} {f1 f2 : FuncId} {c1 c2 : Array Value}, RdsG G X w l cs → G X w p.1 p.2.1 p.2.2 f1 c1 f2 c2 → RdsG G X w (l ++ [p]) (cs ++ [fnv f1 c1, fnv f2 c2])
  | [], cs, p, f1, f2, c1, c2, h, hx => by
    simp only [RdsG] at h
    subst h
    simp only [List.nil_append, RdsG]
    exact ⟨f1, c1, f2, c2, [], rfl, hx, rfl⟩
  | y :: l, cs, p, f1, f2, c1, c2, h, hx => by
    simp only [RdsG] at h
    obtain ⟨d1, e1, d2, e2, cs', rfl, h1, h2⟩ := h
    simp only [List.cons_append, RdsG]
    exact ⟨d1, e1, d2, e2, _, rfl, h1, h2.snoc hx⟩
theorem RdsG.at {X : Nat → Prop} {w : World} : ∀ {l : List PRU} {cs : List Value}, RdsG G X w l cs → ∀ i (h : i < l.length), ∃ f1 c1 f2 c2, cs[i * 2]? = some (fnv f1 c1) ∧ cs[i * 2 + 1]? = some (fnv f2 c2) ∧ G X w l[i].1 l[i].2.1 l[i].2.2 f1 c1 f2 c2
  | [], _, _, _, h => by cases h
  | x :: l, cs, h, i, hi => by
    simp only [RdsG] at h
    obtain ⟨f1, c1, f2, c2, cs', rfl, h1, h2⟩ := h
    cases i with
    | zero => exact ⟨f1, c1, f2, c2, rfl, rfl, h1⟩
    | succ i =>
      obtain ⟨d1, e1, d2, e2, g0, g1, g2⟩ := h2.at i (by simpa using hi)
      have e : (i + 1) * 2 = i * 2 + 2 := by omega
      refine ⟨d1, e1, d2, e2, ?_, ?_, g2⟩ <;> rw [e] <;> simpa using ‹_›
end

theorem info_rd : (Tryz.prog.info? 67).map (fun i => (i.zero, i.size, i.bytes)) = some (some (.agg #[.nilFunc, .nilFunc]), 2, 16) := by kernel_rfl

set_option maxRecDepth 100000 in
/-- append(row, x), x a reading in a new block: where it goes on. -/
theorem step_rd {ops : Array Oper} {o : Oper} {a : Act} {K : Act → World → Prop} {Q : Exit → Act → World → Prop} {E : Prop} (W : World) (hgd : o.guard = none) (s x : Operand)
    (ho : o.op = .call { callee := .builtin .append, args := #[s, x], argTypes := #[113, 113] })
    (B : Nat) (p : Option Addr) (n cap : Nat) (xs : List Value) (f1 f2 : FuncId) (c1 c2 : Array Value) (hs : a.eval s = .slice p n cap) (hown : W.ownsRow B 67 2 (.slice p n cap) n xs) (hx : a.eval x = .slice (some ⟨W.heap.size, 0, none⟩) 1 1)
    (hn : n ≤ 4000000) (hB : B ≤ W.heap.size)
    (h : ∀ p' cap' w', w'.ownsRow B 67 2 (.slice p' (n + 1) cap') (n + 1) (xs ++ [fnv f1 c1, fnv f2 c2]) → Only (blkOf (.slice p n cap)) W w' → (∀ q ∈ blkOf (.slice p' (n + 1) cap'), q ∈ blkOf (.slice p n cap) ∨ W.heap.size ≤ q) → K (a.put o.dst (.slice p' (n + 1) cap')) w') :
    if Region.wanted o (yielded ops a.tmps) = true then Oper.wp Tryz.prog o a (W.alloc (.cells #[.func (.func f1) #[] c1, .func (.func f2) #[] c2] 67)) K Q else E := by
  have hw : Region.wanted o (yielded ops a.tmps) = true := by simp [Region.wanted, hgd]
  rw [if_pos hw]
  obtain ⟨i0, hi, hz0, hz1, hz2⟩ := info_parts info_rd
  have hnew := Go.Deep.blk_alloc_new W (.cells #[.func (.func f1) #[] c1, .func (.func f2) #[] c2] 67)
  have hba := below_alloc W (.cells #[.func (.func f1) #[] c1, .func (.func f2) #[] c2] 67)
  have hown' : (W.alloc (.cells #[.func (.func f1) #[] c1, .func (.func f2) #[] c2] 67)).ownsRow B 67 2 (.slice p n cap) n xs := own_block hown fun g hg => hba.block g (blkOf_own hown g hg).2
  refine wp_append_own_at s x _ ho B 67 i0 _ 2 16 Tryz.underlying113 hi hz0 hz1 hz2 rfl (by decide) _ n xs hs hown' ⟨W.heap.size, 0, none⟩ 1 1 [fnv f1 c1, fnv f2 c2] hx rfl ?_ ?_ (by unfold maxLen; omega) (by omega) (by simp; omega) ?_
  · intro j u hj
    rw [show (⟨W.heap.size, 0, none⟩ : Addr).add j = ⟨W.heap.size, 0 + j, none⟩ from by unfold Addr.add; split <;> simp_all, Nat.zero_add]
    have : (W.alloc (.cells #[.func (.func f1) #[] c1, .func (.func f2) #[] c2] 67)).cell? ⟨W.heap.size, j, none⟩ = [fnv f1 c1, fnv f2 c2][j]? := by
      unfold World.cell?
      rw [hnew]
      simp
    rw [this, hj]
  · intro u hu
    simp only [List.mem_cons, List.not_mem_nil, or_false] at hu
    rcases hu with rfl | rfl <;> rfl
  · intro v' w' hv hg hat
    obtain ⟨p', cap', rfl⟩ := own_slice' hv
    refine h p' cap' w' hv ?_ fun q hq => ?_
    · refine ⟨hg.os, hg.tape, hg.output, Nat.le_trans hba.size hg.size, fun q hq hne => ?_⟩
      rw [hg.block q (Nat.lt_of_lt_of_le hq hba.size) fun e => hne ((ownBlock_blk hown q).1 e.symm)]
      exact hba.block q hq
    · have e := (ownBlock_blk hv q).2 hq
      rcases hat with ha | ha
      · rw [ha] at e; exact .inl ((ownBlock_blk hown q).1 e)
      · rw [ha] at e
        right
        have := Option.some.inj e
        simp at this; omega

/-- The blocks of X, and one more. -/
def withX (X : Nat → Prop) (b : Nat) : Nat → Prop := fun g => X g ∨ g = b
theorem Still.set {X : Nat → Prop} {w w' : World} (h : Still X w w') {g : Nat} (hg : X g) (j : Nat) (v : Value) : Still X w (w'.setCell ⟨g, j, none⟩ v) :=
  ⟨by rw [size_set]; exact h.1, fun k hk hx => by
    rw [Below.heap_setCell _ _ _ _ (show k ≠ g from fun e => hx (by rw [e]; exact hg))]; exact h.2 k hk hx⟩
theorem EnvR.with {X : Nat → Prop} {z w w' : World} (h : EnvR X z w) (hb : Below w.heap.size w w') {b : Nat} (h1 : w.heap.size ≤ b) (h2 : b < w'.heap.size) : EnvR (withX X b) z w' := by
  have h' := h.step hb
  refine ⟨h'.below, fun g hg => ?_, fun g hg => ?_⟩
  · rcases hg with hg | rfl
    · exact h.lo g hg
    · exact Nat.le_trans h.below.size h1
  · rcases hg with hg | rfl
    · exact h'.hi g hg
    · exact h2
/-- What lies in the cell of the result. -/
theorem made_endR {G : RG} (hM : RM G) {X : Nat → Prop} {w w5 : World} {b : Nat} {P : Va → Prop} {R : Va → Va × Int} {U : Option Va} {f1 f2 : FuncId} {c1 c2 : Array Value} (hg : G (withX X b) w5 P R U f1 c1 f2 c2) (hb : Below w.heap.size w w5) (h1 : w.heap.size ≤ b) (x y : Value) :
    MadeG G X P R U w (.returned (.agg #[fnv f1 c1, fnv f2 c2])) ((w5.setCell ⟨b, 0, none⟩ x).setCell ⟨b, 1, none⟩ y) :=
  ⟨f1, c1, f2, c2, rfl, hM.move hg (((Still.refl _ _).set (.inr rfl) _ _).set (.inr rfl) _ _) fun _ hg => .inl (.inl hg), (hb.setCell (p := ⟨b, 0, none⟩) h1 _).setCell (p := ⟨b, 1, none⟩) h1 _⟩
end Go.Proofs.YtnnjhcjalmdmcaaGreat
