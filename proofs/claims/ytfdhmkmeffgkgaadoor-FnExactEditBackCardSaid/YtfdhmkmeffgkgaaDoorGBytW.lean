/- Walks: bytes appended to what a call owns: impl.appendSyms. -/
import Derived.Test.YtfdhmkmeffgkgaaDoorGOwn
import Derived.Test.YtfdhmkmeffgkgaaDoorGTxtP
import Derived.Test.YtfdhmkmeffgkgaaDoorGEqA
import Derived.Lib.AppendStr
namespace Go.Proofs.YtfdhmkmeffgkgaaDoor
open Go.RowKit

/-- What is no row of bytes stays. -/
def Kept (w w' : World) : Prop := ∀ (q : Nat) (ob : Obj), w.heap[q]? = some ob → (∀ cur, ob ≠ .cells cur 5 (0, 0)) → w'.heap[q]? = some ob
theorem Kept.refl (w : World) : Kept w w := fun _ _ h _ => h
theorem Kept.trans {a b c : World} (h : Kept a b) (k : Kept b c) : Kept a c := fun q ob ho hn => k q ob (h q ob ho hn) hn
theorem Kept.below {w w' : World} (h : Below w.heap.size w w') : Kept w w' := fun q ob ho _ => by
  rw [h.block q (Array.getElem?_eq_some_iff.1 ho).1]; exact ho

theorem grow_other {W W1 w' : World} {base T sz n : Nat} {v : Value} {xs : List Value} (hown : W.ownsRow base T sz v n xs) (hb : Below W.heap.size W W1) (hg : W1.grownBy w' v.ownBlock) :
    ∀ (q : Nat) (ob : Obj), W.heap[q]? = some ob → (∀ cur, ob ≠ .cells cur T (0, 0)) → w'.heap[q]? = some ob := by
  intro q ob hq hne
  have hlt := (Array.getElem?_eq_some_iff.1 hq).1
  rw [hg.block q (Nat.lt_of_lt_of_le hlt hb.size) (fun e => by
    rcases hown.2 with ⟨hv, _⟩ | ⟨g, cap, cur, hv, _, hgg, _⟩
    · rw [hv] at e; cases e
    · rw [hv] at e
      simp [Value.ownBlock] at e
      subst e
      rw [hq] at hgg
      exact hne cur (Option.some.inj hgg)), hb.block q hlt]
  exact hq
set_option maxRecDepth 100000 in
/-- append(v, t...), t a string: what else there is stays. -/
theorem wpList_strK {ops : Array Oper} {rest : List Oper} {o : Oper} {a : Act} {Q : Exit → Act → World → Prop} (W : World) (hgd : o.guard = none) (s x : Operand)
    (ho : o.op = .call { callee := .builtin .append, args := #[s, x], argTypes := #[79, 9] })
    (base : Nat) (v : Value) (l : List UInt8) (t : ByteArray) (hs : a.eval s = v) (hown : OwnB W base v l) (hx : a.eval x = .string t)
    (hl : l.length + t.size < 70368744177664) (hbase : base ≤ W.heap.size)
    (h : ∀ v' w', OwnB w' base v' (l ++ t.data.toList) → (∀ B w0, Below B w0 W → B ≤ base → Below B w0 w') → Kept W w' → wpList Tryd.prog ops Q rest (a.put o.dst v') w') :
    wpList Tryd.prog ops Q (o :: rest) a W := by
  obtain ⟨i0, hi, hz0, hz1, hz2⟩ := info_parts u8_info
  refine Lib.wpList_append_own_string W hgd s x _ _ ho base 5 i0 Tryd.underlying79 Tryd.underlying9 hi hz0 hz1 hz2 v l.length (cellsB l) hs hown t hx (by unfold maxLen; omega) (by omega) hbase ?_
  intro v' w' hown' hgrow _
  refine h v' w' ?_ (fun B w0 hb hB => ?_) (grow_other hown (Below.refl _ _) hgrow)
  · have e : cellsB l ++ Lib.strCells t = cellsB (l ++ t.data.toList) := by simp [cellsB, Lib.strCells]
    rw [e] at hown'
    show w'.ownsRow base _ 1 v' (l ++ t.data.toList).length _
    have e2 : (l ++ t.data.toList).length = l.length + t.size := by simp
    rw [e2]; exact hown'
  · refine hb.grown hgrow (by omega) fun k hk => ?_
    have := hown.lt k hk
    omega
/-- append(v, c), c in a new cell: what else there is stays. -/
theorem wpList_byteK {ops : Array Oper} {rest : List Oper} {o : Oper} {a : Act} {Q : Exit → Act → World → Prop} (W : World) (hgd : o.guard = none) (s x : Operand)
    (ho : o.op = .call { callee := .builtin .append, args := #[s, x], argTypes := #[79, 79] })
    (base : Nat) (v : Value) (l : List UInt8) (n : Int) (c : UInt8) (hs : a.eval s = v) (hown : OwnB W base v l) (hx : a.eval x = .slice (some ⟨W.heap.size, 0, none⟩) 1 1)
    (hn : n = (c.toNat : Int)) (hl : l.length < 70368744177664) (hbase : base ≤ W.heap.size)
    (h : ∀ v' w', OwnB w' base v' (l ++ [c]) → (∀ B w0, Below B w0 W → B ≤ base → Below B w0 w') → Kept W w' → wpList Tryd.prog ops Q rest (a.put o.dst v') w') :
    wpList Tryd.prog ops Q (o :: rest) a (W.alloc (.cells #[.int .u8 n] 5)) := by
  obtain ⟨i0, hi, hz0, hz1, hz2⟩ := info_parts u8_info
  subst hn
  refine wpList_append_own _ hgd s x _ ho base 5 i0 (.int .u8 0) 1 1 Tryd.underlying79 hi hz0 hz1 hz2 rfl (by decide) v l.length (cellsB l) hs (hown.alloc _) ⟨W.heap.size, 0, none⟩ 1 1 [.int .u8 (c.toNat : Int)] hx rfl ?_ ?_ (by unfold maxLen; omega) (by omega) (by simp; omega) ?_
  · intro j u hj
    match j, hj with
    | 0, hj => simp at hj; subst hj; simp [Addr.add]
  · intro u hu; simp at hu; subst hu; rfl
  · intro v' w' hown' hgrow _
    refine h v' w' (by simpa [OwnB, cellsB] using hown') (fun B w0 hb hB => ?_) (grow_other hown (below_alloc _ _) hgrow)
    have h2 := hb.alloc (show B ≤ W.heap.size by omega) (.cells #[.int .u8 (c.toNat : Int)] 5)
    refine h2.grown hgrow (by simp; omega) fun k hk => ?_
    have := hown.lt k hk
    omega
/-- What an append to what the caller owns leaves. -/
def AppPost (w0 w : World) (l : List UInt8) (e : Ending) (w' : World) : Prop :=
  ∃ p n m, e = .returned (.slice p n m) ∧ OwnB w' w0.heap.size (.slice p n m) l ∧ Below w0.heap.size w0 w' ∧ w.heap.size ≤ w'.heap.size ∧ Kept w w'

theorem OwnB.slice {w : World} {base : Nat} {v : Value} {l : List UInt8} (h : OwnB w base v l) : ∃ p n m, v = .slice p n m := by
  rcases h.shape with ⟨rfl, _⟩ | ⟨g, cap, rfl, _⟩
  · exact ⟨_, _, _, rfl⟩
  · exact ⟨_, _, _, rfl⟩
theorem joinC_take0 {sy : List ByteArray} {k : Nat} (h : k < sy.length) {l L : List UInt8} (hL : L = l ++ joinC ((sy.take k).map (·.data.toList))) (h0 : k = 0) : L ++ sy[k].data.toList = l ++ joinC ((sy.take (k + 1)).map (·.data.toList)) := by
  rw [List.take_succ_eq_append_getElem h, List.map_append, List.map_cons, List.map_nil, joinC_snoc, hL]
  subst h0; simp [joinC]
theorem joinC_take1 {sy : List ByteArray} {k : Nat} (h : k < sy.length) {l L : List UInt8} (hL : L = l ++ joinC ((sy.take k).map (·.data.toList))) (h0 : ¬ k = 0) : (L ++ [44]) ++ sy[k].data.toList = l ++ joinC ((sy.take (k + 1)).map (·.data.toList)) := by
  rw [List.take_succ_eq_append_getElem h, List.map_append, List.map_cons, List.map_nil, joinC_snoc, hL]
  rw [if_neg (by intro he; simp at he; rcases he with he | he; exact h0 he; rw [he] at h; cases h)]
  simp

theorem joinC_take_len (sy : List ByteArray) (hs : ∀ s ∈ sy, s.size ≤ 8) (h6 : sy.length ≤ 6) (k : Nat) : (joinC ((sy.take k).map (·.data.toList))).length ≤ 54 := by
  have h1 := joinC_len 8 ((sy.take k).map (·.data.toList)) (fun a ha => by
    obtain ⟨s, hs', rfl⟩ := List.mem_map.1 ha
    have := hs s (List.mem_of_mem_take hs')
    rw [Array.length_toList]; exact this)
  have h2 : ((sy.take k).map (·.data.toList)).length ≤ 6 := by rw [List.length_map]; exact Nat.le_trans (by rw [List.length_take]; omega) h6
  have := Nat.mul_le_mul_right (8 + 1) h2
  omega

end Go.Proofs.YtfdhmkmeffgkgaaDoor
