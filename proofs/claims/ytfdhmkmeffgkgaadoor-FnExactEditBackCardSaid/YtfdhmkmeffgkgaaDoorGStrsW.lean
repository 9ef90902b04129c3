/- Laws: strings appended to what a call owns. spec.l02Kinds. -/
import Derived.Test.YtfdhmkmeffgkgaaDoorGBytW
import Derived.Test.YtfdhmkmeffgkgaaDoorGToW
import Derived.Laws.AppendOwnNone
namespace Go.Proofs.YtfdhmkmeffgkgaaDoor
open Go.RowKit

theorem OwnStrs.lt {w : World} {base : Nat} {v : Value} {l : List ByteArray} (h : OwnStrs w base v l) : ∀ k, v.ownBlock = some k → base ≤ k := by
  intro k hk
  rcases h.2.2 with ⟨rfl, _⟩ | ⟨g, cap, cur, rfl, hb, _⟩
  · cases hk
  · simp [Value.ownBlock] at hk
    subst hk
    exact hb
theorem OwnStrs.empty (w : World) (base : Nat) (hb : base ≤ w.heap.size) : OwnStrs (w.alloc (.cells #[] 9)) base (.slice (some ⟨w.heap.size, 0, none⟩) 0 0) [] := by
  refine ⟨by simp, rfl, .inr ⟨w.heap.size, 0, #[], rfl, hb, Go.Deep.blk_alloc_new _ _, Nat.le_refl _, by decide, rfl, rfl⟩⟩
theorem OwnStrs.block {w w' : World} {base : Nat} {v : Value} {l : List ByteArray} (h : OwnStrs w base v l) (hb : Below w.heap.size w w') : OwnStrs w' base v l :=
  ⟨h.1, own_block h.2 fun g hg => hb.block g (blkOf_own h.2 g hg).2⟩
theorem OwnStrs.slice {w : World} {base : Nat} {v : Value} {l : List ByteArray} (h : OwnStrs w base v l) : ∃ p n m, v = .slice p n m := by
  rcases h.2.2 with ⟨rfl, _⟩ | ⟨g, cap, cur, rfl, _⟩
  · exact ⟨_, _, _, rfl⟩
  · exact ⟨_, _, _, rfl⟩

theorem run_append_nil {w : World} (base : Nat) (t ty e : TypeId) (i : TypeInfo) (size c : Nat) (ht : Tryd.prog.underlying t = some (.slice e)) (hi : Tryd.prog.info? e = some i)
    (v : Value) (n : Nat) (xs : List Value) (hown : w.ownsRow base e size v n xs) :
    (Builtin.append_ #[t, t] ty #[v, .slice none 0 c]).run Tryd.prog w = .ok v w := by
  rcases hown.2 with ⟨rfl, rfl⟩ | ⟨g, cap, cur, rfl, _, _, hnc, _⟩
  · simp [Builtin.append_, run_underlying ht, sizeOf, typeInfo, hi, Builtin.lenOf, Builtin.firstCells]
  · simp [Builtin.append_, run_underlying ht, sizeOf, typeInfo, hi, Builtin.lenOf, Builtin.firstCells, hnc, storeCells]

set_option maxRecDepth 100000 in
/-- append(v, u...), u strings. -/
theorem wpList_strs {ops : Array Oper} {rest : List Oper} {o : Oper} {a : Act} {Q : Exit → Act → World → Prop} (W : World) (hgd : o.guard = none) (s x : Operand)
    (ho : o.op = .call { callee := .builtin .append, args := #[s, x], argTypes := #[22, 22] })
    (base : Nat) (v u : Value) (l m : List ByteArray) (hs : a.eval s = v) (hown : OwnStrs W base v l) (hx : a.eval x = u) (hu : IsStrs W u m)
    (hl : l.length + m.length ≤ 1048576) (hbase : base ≤ W.heap.size)
    (h : ∀ v' w', OwnStrs w' base v' (l ++ m) → (∀ B w0, Below B w0 W → B ≤ base → Below B w0 w') → wpList Tryd.prog ops Q rest (a.put o.dst v') w') :
    wpList Tryd.prog ops Q (o :: rest) a W := by
  obtain ⟨i0, hi, hz0, hz1, hz2⟩ := info_parts info_str
  obtain ⟨h1, h2, ad, cap, rfl, h3, h4, h6⟩ := hu
  have fin : ∀ v' w', w'.ownsRow base 9 1 v' (l.length + m.length) (l.map Value.string ++ m.map Value.string) → W.grownBy w' v.ownBlock → wpList Tryd.prog ops Q rest (a.put o.dst v') w' := by
    intro v' w' hown' hgrow
    refine h v' w' ⟨fun s hs => ?_, by rw [List.length_append, List.map_append]; exact hown'⟩ fun B w0 hb hB => hb.grown hgrow (by omega) fun k hk => Nat.le_trans hB (hown.lt k hk)
    rcases List.mem_append.1 hs with hs | hs
    · exact hown.1 s hs
    · exact h2 s hs
  cases ad with
  | none =>
    rcases h6 with rfl | ⟨b, off, he, _⟩
    · have hx' : a.eval x = .slice none 0 cap := hx
      have hrun := run_append_nil (w := W) base 22 o.type 9 i0 1 cap Tryd.underlying22 hi v l.length (l.map Value.string) hown.2
      refine wpList_plain hgd fun K hK => ?_
      unfold Oper.wp
      simp [execOp, ho, resolve, invoke, builtin, hs, hx', hrun, Result.andThen]
      refine hK _ _ (h v W (by simpa using hown) fun B w0 hb _ => hb)
    · cases he
  | some ad =>
    refine wpList_append_own W hgd s x _ ho base 9 i0 _ 1 16 Tryd.underlying22 hi hz0 hz1 hz2 rfl (by decide) v l.length (l.map Value.string) hs hown.2 ad m.length cap (m.map Value.string) hx (by simp) ?_ ?_ (by unfold maxLen; omega) (by omega) hbase fun v' w' a b _ => fin v' w' a b
    · intro j y hj
      rcases h6 with rfl | ⟨b, off, he, hst⟩
      · simp at hj
      · obtain rfl := Option.some.inj he
        have hlt : j < m.length := by
          have := (List.getElem?_eq_some_iff.1 hj).1
          simpa using this
        rw [List.getElem?_map, List.getElem?_eq_getElem hlt] at hj
        simp at hj
        subst hj
        have := hst j hlt
        rw [show (⟨b, off, none⟩ : Addr).add j = ⟨b, off + j, none⟩ from by unfold Addr.add; split <;> simp_all]
        exact this
    · intro y hy
      obtain ⟨z, _, rfl⟩ := List.mem_map.1 hy
      rfl

/-- append(v, t), t in a new cell. -/
theorem wpList_push {ops : Array Oper} {rest : List Oper} {o : Oper} {a : Act} {Q : Exit → Act → World → Prop} (W : World) (hgd : o.guard = none) (s x : Operand)
    (ho : o.op = .call { callee := .builtin .append, args := #[s, x], argTypes := #[22, 22] })
    (base : Nat) (v : Value) (l : List ByteArray) (t : ByteArray) (hs : a.eval s = v) (hown : OwnStrs W base v l) (hx : a.eval x = .slice (some ⟨W.heap.size, 0, none⟩) 1 1)
    (ht : t.size ≤ 9223372036854775807) (hl : l.length < 1048576) (hbase : base ≤ W.heap.size)
    (h : ∀ v' w', OwnStrs w' base v' (l ++ [t]) → (∀ B w0, Below B w0 W → B ≤ base → Below B w0 w') → wpList Tryd.prog ops Q rest (a.put o.dst v') w') :
    wpList Tryd.prog ops Q (o :: rest) a (W.alloc (.cells #[.string t] 9)) := by
  have hnew := Go.Deep.blk_alloc_new W (.cells #[.string t] 9)
  refine wpList_strs _ hgd s x ho base v _ l [t] hs (hown.block (below_alloc _ _)) hx ⟨by simp, by simpa using ht, _, 1, rfl, by simp, by simp, .inr ⟨_, 0, rfl, fun i hi => ?_⟩⟩ (by simp; omega) (by simp; omega) ?_
  · have : i = 0 := by simpa using hi
    subst this
    unfold World.cell?
    rw [hnew]
    rfl
  · intro v' w' hv hb
    exact h v' w' hv fun B w0 h0 hB => hb B w0 (h0.alloc (by omega) _) hB

/-- The words of kinds stand in block g. -/
def KwIn (w : World) (g : Nat) : Prop := ∀ k : Nat, k < 8 → w.cell? ⟨g, k, none⟩ = some (.string ⟨(kwB k).toArray⟩)
def KindsPost (w : World) (e : Ending) (w' : World) : Prop := e = .returned (.slice (some ⟨w.heap.size, 0, none⟩) 8 8) ∧ KwIn w' w.heap.size ∧ Below w.heap.size w w'

end Go.Proofs.YtfdhmkmeffgkgaaDoor
