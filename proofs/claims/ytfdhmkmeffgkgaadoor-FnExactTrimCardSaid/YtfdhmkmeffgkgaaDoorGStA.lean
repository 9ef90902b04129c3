/- Walks: bytes appended to what a call owns: impl.appendSyms. · Laws: strings appended to what a call owns. spec.l02Kinds. · Walks: impl.joined, impl.tooLong. -/
import Derived.Test.YtfdhmkmeffgkgaaDoorGOwn
import Derived.Test.YtfdhmkmeffgkgaaDoorGTxtP
import Derived.Test.YtfdhmkmeffgkgaaDoorGEqA
import Derived.Lib.AppendStr
import Derived.Test.YtfdhmkmeffgkgaaDoorGToW
import Derived.Laws.AppendOwnNone
import Derived.WalkLawsBesides
import Derived.Lib.Hide
import Derived.Lib.BufferWrite
import Derived.Laws.CopyOwn
import Derived.Outline
namespace Go.Proofs.YtfdhmkmeffgkgaaDoor
open Go.RowKit

/-- What is no row of bytes stays. -/
def Kept (w w' : World) : Prop := ∀ (q : Nat) (ob : Obj), w.heap[q]? = some ob → (∀ cur, ob ≠ .cells cur 5 (0, 0)) → w'.heap[q]? = some ob
theorem Kept.refl (w : World) : Kept w w := fun _ _ h _ => h
theorem Kept.trans {a b c : World} (h : Kept a b) (k : Kept b c) : Kept a c := fun q ob ho hn => k q ob (h q ob ho hn) hn
theorem Kept.below {w w' : World} (h : Below w.heap.size w w') : Kept w w' := fun q ob ho _ => by
  rw [h.block q (Array.getElem?_eq_some_iff.1 ho).1]; exact ho

theorem grow_other {W W1 w' : World} {base T sz n : Nat} {v : Value} {xs : List Value} (hown : W.ownsRow base T sz v n xs) (hb : Below W.heap.size W W1) (hg : W1.grownBy w' v.ownBlock) :
    ∀ (q : Nat) (ob : Obj), W.heap[q]? = some ob → (∀ cur, ob ≠ .cells cur T (0, 0)) → w'.heap[q]? = some ob := by
  intro q ob hq hne
  have hlt := (Array.getElem?_eq_some_iff.1 hq).1
  rw [hg.block q (Nat.lt_of_lt_of_le hlt hb.size) (fun e => by
    rcases hown.2 with ⟨hv, _⟩ | ⟨g, cap, cur, hv, _, hgg, _⟩
    · rw [hv] at e; cases e
    · rw [hv] at e
      simp [Value.ownBlock] at e
      subst e
      rw [hq] at hgg
      exact hne cur (Option.some.inj hgg)), hb.block q hlt]
  exact hq
set_option maxRecDepth 100000 in
/-- append(v, t...), t a string: what else there is stays. -/
theorem wpList_strK {ops : Array Oper} {rest : List Oper} {o : Oper} {a : Act} {Q : Exit → Act → World → Prop} (W : World) (hgd : o.guard = none) (s x : Operand)
    (ho : o.op = .call { callee := .builtin .append, args := #[s, x], argTypes := #[79, 9] })
    (base : Nat) (v : Value) (l : List UInt8) (t : ByteArray) (hs : a.eval s = v) (hown : OwnB W base v l) (hx : a.eval x = .string t)
    (hl : l.length + t.size < 70368744177664) (hbase : base ≤ W.heap.size)
    (h : ∀ v' w', OwnB w' base v' (l ++ t.data.toList) → (∀ B w0, Below B w0 W → B ≤ base → Below B w0 w') → Kept W w' → wpList Tryd.prog ops Q rest (a.put o.dst v') w') :
    wpList Tryd.prog ops Q (o :: rest) a W := by
  obtain ⟨i0, hi, hz0, hz1, hz2⟩ := info_parts u8_info
  refine Lib.wpList_append_own_string W hgd s x _ _ ho base 5 i0 Tryd.underlying79 Tryd.underlying9 hi hz0 hz1 hz2 v l.length (cellsB l) hs hown t hx (by unfold maxLen; omega) (by omega) hbase ?_
  intro v' w' hown' hgrow _
  refine h v' w' ?_ (fun B w0 hb hB => ?_) (grow_other hown (Below.refl _ _) hgrow)
  · have e : cellsB l ++ Lib.strCells t = cellsB (l ++ t.data.toList) := by simp [cellsB, Lib.strCells]
    rw [e] at hown'
    show w'.ownsRow base _ 1 v' (l ++ t.data.toList).length _
    have e2 : (l ++ t.data.toList).length = l.length + t.size := by simp
    rw [e2]; exact hown'
  · refine hb.grown hgrow (by omega) fun k hk => ?_
    have := hown.lt k hk
    omega
/-- append(v, c), c in a new cell: what else there is stays. -/
theorem wpList_byteK {ops : Array Oper} {rest : List Oper} {o : Oper} {a : Act} {Q : Exit → Act → World → Prop} (W : World) (hgd : o.guard = none) (s x : Operand)
    (ho : o.op = .call { callee := .builtin .append, args := #[s, x], argTypes := #[79, 79] })
    (base : Nat) (v : Value) (l : List UInt8) (n : Int) (c : UInt8) (hs : a.eval s = v) (hown : OwnB W base v l) (hx : a.eval x = .slice (some ⟨W.heap.size, 0, none⟩) 1 1)
    (hn : n = (c.toNat : Int)) (hl : l.length < 70368744177664) (hbase : base ≤ W.heap.size)
    (h : ∀ v' w', OwnB w' base v' (l ++ [c]) → (∀ B w0, Below B w0 W → B ≤ base → Below B w0 w') → Kept W w' → wpList Tryd.prog ops Q rest (a.put o.dst v') w') :
    wpList Tryd.prog ops Q (o :: rest) a (W.alloc (.cells #[.int .u8 n] 5)) := by
  obtain ⟨i0, hi, hz0, hz1, hz2⟩ := info_parts u8_info
  subst hn
  refine wpList_append_own _ hgd s x _ ho base 5 i0 (.int .u8 0) 1 1 Tryd.underlying79 hi hz0 hz1 hz2 rfl (by decide) v l.length (cellsB l) hs (hown.alloc _) ⟨W.heap.size, 0, none⟩ 1 1 [.int .u8 (c.toNat : Int)] hx rfl ?_ ?_ (by unfold maxLen; omega) (by omega) (by simp; omega) ?_
  · intro j u hj
    match j, hj with
    | 0, hj => simp at hj; subst hj; simp [Addr.add]
  · intro u hu; simp at hu; subst hu; rfl
  · intro v' w' hown' hgrow _
    refine h v' w' (by simpa [OwnB, cellsB] using hown') (fun B w0 hb hB => ?_) (grow_other hown (below_alloc _ _) hgrow)
    have h2 := hb.alloc (show B ≤ W.heap.size by omega) (.cells #[.int .u8 (c.toNat : Int)] 5)
    refine h2.grown hgrow (by simp; omega) fun k hk => ?_
    have := hown.lt k hk
    omega
/-- What an append to what the caller owns leaves. -/
def AppPost (w0 w : World) (l : List UInt8) (e : Ending) (w' : World) : Prop :=
  ∃ p n m, e = .returned (.slice p n m) ∧ OwnB w' w0.heap.size (.slice p n m) l ∧ Below w0.heap.size w0 w' ∧ w.heap.size ≤ w'.heap.size ∧ Kept w w'

theorem OwnB.slice {w : World} {base : Nat} {v : Value} {l : List UInt8} (h : OwnB w base v l) : ∃ p n m, v = .slice p n m := by
  rcases h.shape with ⟨rfl, _⟩ | ⟨g, cap, rfl, _⟩
  · exact ⟨_, _, _, rfl⟩
  · exact ⟨_, _, _, rfl⟩
theorem joinC_take0 {sy : List ByteArray} {k : Nat} (h : k < sy.length) {l L : List UInt8} (hL : L = l ++ joinC ((sy.take k).map (·.data.toList))) (h0 : k = 0) : L ++ sy[k].data.toList = l ++ joinC ((sy.take (k + 1)).map (·.data.toList)) := by
  rw [List.take_succ_eq_append_getElem h, List.map_append, List.map_cons, List.map_nil, joinC_snoc, hL]
  subst h0; simp [joinC]
theorem joinC_take1 {sy : List ByteArray} {k : Nat} (h : k < sy.length) {l L : List UInt8} (hL : L = l ++ joinC ((sy.take k).map (·.data.toList))) (h0 : ¬ k = 0) : (L ++ [44]) ++ sy[k].data.toList = l ++ joinC ((sy.take (k + 1)).map (·.data.toList)) := by
  rw [List.take_succ_eq_append_getElem h, List.map_append, List.map_cons, List.map_nil, joinC_snoc, hL]
  rw [if_neg (by intro he; simp at he; rcases he with he | he; exact h0 he; rw [he] at h; cases h)]
  simp

theorem joinC_take_len (sy : List ByteArray) (hs : ∀ s ∈ sy, s.size ≤ 8) (h6 : sy.length ≤ 6) (k : Nat) : (joinC ((sy.take k).map (·.data.toList))).length ≤ 54 := by
  have h1 := joinC_len 8 ((sy.take k).map (·.data.toList)) (fun a ha => by
    obtain ⟨s, hs', rfl⟩ := List.mem_map.1 ha
    have := hs s (List.mem_of_mem_take hs')
    rw [Array.length_toList]; exact this)
  have h2 : ((sy.take k).map (·.data.toList)).length ≤ 6 := by rw [List.length_map]; exact Nat.le_trans (by rw [List.length_take]; omega) h6
  have := Nat.mul_le_mul_right (8 + 1) h2
  omega

end Go.Proofs.YtfdhmkmeffgkgaaDoor
namespace Go.Proofs.YtfdhmkmeffgkgaaDoor
open Go.RowKit

theorem OwnStrs.lt {w : World} {base : Nat} {v : Value} {l : List ByteArray} (h : OwnStrs w base v l) : ∀ k, v.ownBlock = some k → base ≤ k := by
  intro k hk
  rcases h.2.2 with ⟨rfl, _⟩ | ⟨g, cap, cur, rfl, hb, _⟩
  · cases hk
  · simp [Value.ownBlock] at hk
    subst hk
    exact hb
theorem OwnStrs.empty (w : World) (base : Nat) (hb : base ≤ w.heap.size) : OwnStrs (w.alloc (.cells #[] 9)) base (.slice (some ⟨w.heap.size, 0, none⟩) 0 0) [] := by
  refine ⟨by simp, rfl, .inr ⟨w.heap.size, 0, #[], rfl, hb, Go.Deep.blk_alloc_new _ _, Nat.le_refl _, by decide, rfl, rfl⟩⟩
theorem OwnStrs.block {w w' : World} {base : Nat} {v : Value} {l : List ByteArray} (h : OwnStrs w base v l) (hb : Below w.heap.size w w') : OwnStrs w' base v l :=
  ⟨h.1, own_block h.2 fun g hg => hb.block g (blkOf_own h.2 g hg).2⟩
theorem OwnStrs.slice {w : World} {base : Nat} {v : Value} {l : List ByteArray} (h : OwnStrs w base v l) : ∃ p n m, v = .slice p n m := by
  rcases h.2.2 with ⟨rfl, _⟩ | ⟨g, cap, cur, rfl, _⟩
  · exact ⟨_, _, _, rfl⟩
  · exact ⟨_, _, _, rfl⟩

theorem run_append_nil {w : World} (base : Nat) (t ty e : TypeId) (i : TypeInfo) (size c : Nat) (ht : Tryd.prog.underlying t = some (.slice e)) (hi : Tryd.prog.info? e = some i)
    (v : Value) (n : Nat) (xs : List Value) (hown : w.ownsRow base e size v n xs) :
    (Builtin.append_ #[t, t] ty #[v, .slice none 0 c]).run Tryd.prog w = .ok v w := by
  rcases hown.2 with ⟨rfl, rfl⟩ | ⟨g, cap, cur, rfl, _, _, hnc, _⟩
  · simp [Builtin.append_, run_underlying ht, sizeOf, typeInfo, hi, Builtin.lenOf, Builtin.firstCells]
  · simp [Builtin.append_, run_underlying ht, sizeOf, typeInfo, hi, Builtin.lenOf, Builtin.firstCells, hnc, storeCells]

set_option maxRecDepth 100000 in
/-- append(v, u...), u strings. -/
theorem wpList_strs {ops : Array Oper} {rest : List Oper} {o : Oper} {a : Act} {Q : Exit → Act → World → Prop} (W : World) (hgd : o.guard = none) (s x : Operand)
    (ho : o.op = .call { callee := .builtin .append, args := #[s, x], argTypes := #[22, 22] })
    (base : Nat) (v u : Value) (l m : List ByteArray) (hs : a.eval s = v) (hown : OwnStrs W base v l) (hx : a.eval x = u) (hu : IsStrs W u m)
    (hl : l.length + m.length ≤ 1048576) (hbase : base ≤ W.heap.size)
    (h : ∀ v' w', OwnStrs w' base v' (l ++ m) → (∀ B w0, Below B w0 W → B ≤ base → Below B w0 w') → wpList Tryd.prog ops Q rest (a.put o.dst v') w') :
    wpList Tryd.prog ops Q (o :: rest) a W := by
  obtain ⟨i0, hi, hz0, hz1, hz2⟩ := info_parts info_str
  obtain ⟨h1, h2, ad, cap, rfl, h3, h4, h6⟩ := hu
  have fin : ∀ v' w', w'.ownsRow base 9 1 v' (l.length + m.length) (l.map Value.string ++ m.map Value.string) → W.grownBy w' v.ownBlock → wpList Tryd.prog ops Q rest (a.put o.dst v') w' := by
    intro v' w' hown' hgrow
    refine h v' w' ⟨fun s hs => ?_, by rw [List.length_append, List.map_append]; exact hown'⟩ fun B w0 hb hB => hb.grown hgrow (by omega) fun k hk => Nat.le_trans hB (hown.lt k hk)
    rcases List.mem_append.1 hs with hs | hs
    · exact hown.1 s hs
    · exact h2 s hs
  cases ad with
  | none =>
    rcases h6 with rfl | ⟨b, off, he, _⟩
    · have hx' : a.eval x = .slice none 0 cap := hx
      have hrun := run_append_nil (w := W) base 22 o.type 9 i0 1 cap Tryd.underlying22 hi v l.length (l.map Value.string) hown.2
      refine wpList_plain hgd fun K hK => ?_
      unfold Oper.wp
      simp [execOp, ho, resolve, invoke, builtin, hs, hx', hrun, Result.andThen]
      refine hK _ _ (h v W (by simpa using hown) fun B w0 hb _ => hb)
    · cases he
  | some ad =>
    refine wpList_append_own W hgd s x _ ho base 9 i0 _ 1 16 Tryd.underlying22 hi hz0 hz1 hz2 rfl (by decide) v l.length (l.map Value.string) hs hown.2 ad m.length cap (m.map Value.string) hx (by simp) ?_ ?_ (by unfold maxLen; omega) (by omega) hbase fun v' w' a b _ => fin v' w' a b
    · intro j y hj
      rcases h6 with rfl | ⟨b, off, he, hst⟩
      · simp at hj
      · obtain rfl := Option.some.inj he
        have hlt : j < m.length := by
          have := (List.getElem?_eq_some_iff.1 hj).1
          simpa using this
        rw [List.getElem?_map, List.getElem?_eq_getElem hlt] at hj
        simp at hj
        subst hj
        have := hst j hlt
        rw [show (⟨b, off, none⟩ : Addr).add j = ⟨b, off + j, none⟩ from by unfold Addr.add; split <;> simp_all]
        exact this
    · intro y hy
      obtain ⟨z, _, rfl⟩ := List.mem_map.1 hy
      rfl

/-- append(v, t), t in a new cell. -/
theorem wpList_push {ops : Array Oper} {rest : List Oper} {o : Oper} {a : Act} {Q : Exit → Act → World → Prop} (W : World) (hgd : o.guard = none) (s x : Operand)
    (ho : o.op = .call { callee := .builtin .append, args := #[s, x], argTypes := #[22, 22] })
    (base : Nat) (v : Value) (l : List ByteArray) (t : ByteArray) (hs : a.eval s = v) (hown : OwnStrs W base v l) (hx : a.eval x = .slice (some ⟨W.heap.size, 0, none⟩) 1 1)
    (ht : t.size ≤ 9223372036854775807) (hl : l.length < 1048576) (hbase : base ≤ W.heap.size)
    (h : ∀ v' w', OwnStrs w' base v' (l ++ [t]) → (∀ B w0, Below B w0 W → B ≤ base → Below B w0 w') → wpList Tryd.prog ops Q rest (a.put o.dst v') w') :
    wpList Tryd.prog ops Q (o :: rest) a (W.alloc (.cells #[.string t] 9)) := by
  have hnew := Go.Deep.blk_alloc_new W (.cells #[.string t] 9)
  refine wpList_strs _ hgd s x ho base v _ l [t] hs (hown.block (below_alloc _ _)) hx ⟨by simp, by simpa using ht, _, 1, rfl, by simp, by simp, .inr ⟨_, 0, rfl, fun i hi => ?_⟩⟩ (by simp; omega) (by simp; omega) ?_
  · have : i = 0 := by simpa using hi
    subst this
    unfold World.cell?
    rw [hnew]
    rfl
  · intro v' w' hv hb
    exact h v' w' hv fun B w0 h0 hB => hb B w0 (h0.alloc (by omega) _) hB

/-- The words of kinds stand in block g. -/
def KwIn (w : World) (g : Nat) : Prop := ∀ k : Nat, k < 8 → w.cell? ⟨g, k, none⟩ = some (.string ⟨(kwB k).toArray⟩)
def KindsPost (w : World) (e : Ending) (w' : World) : Prop := e = .returned (.slice (some ⟨w.heap.size, 0, none⟩) 8 8) ∧ KwIn w' w.heap.size ∧ Below w.heap.size w w'

end Go.Proofs.YtfdhmkmeffgkgaaDoor
namespace Go.Proofs.YtfdhmkmeffgkgaaDoor
open Go.RowKit

theorem u8_size : (Tryd.prog.info? 5).map (·.size) = some 1 := by kernel_rfl

theorem OwnB.of_row {w : World} {base g : Nat} {l : List UInt8} (hg : w.heap[g]? = some (.cells (cellsB l).toArray 5 (0, 0))) (hb : base ≤ g) (hl : l.length ≤ maxLen) : OwnB w base (.slice (some ⟨g, 0, none⟩) l.length l.length) l :=
  ⟨by simp [cellsB], .inr ⟨g, l.length, _, rfl, hb, hg, Nat.le_refl _, hl, by simp [cellsB], by rw [List.take_of_length_le (by simp [cellsB])]⟩⟩

/-- Three cells of a block of the call's own. -/
theorem below3 {w w0 w1 : World} {B : Nat} {T : TypeId} {cs : Array Value} (h0 : w0 = w.alloc (.cells cs T)) (hb : Below B w0 w1) (hB : w.heap.size ≤ B) (x y z : Value) :
    Below w.heap.size w (((w1.setCell ⟨w.heap.size, 0, none⟩ x).setCell ⟨w.heap.size, 1, none⟩ y).setCell ⟨w.heap.size, 2, none⟩ z) := by
  subst h0
  have h1 : Below w.heap.size w (w.alloc (.cells cs T)) := (Below.refl _ _).alloc (Nat.le_refl _) _
  exact (((h1.trans (hb.mono hB)).setCell (p := ⟨w.heap.size, 0, none⟩) (Nat.le_refl _) _).setCell (p := ⟨w.heap.size, 1, none⟩) (Nat.le_refl _) _).setCell (p := ⟨w.heap.size, 2, none⟩) (Nat.le_refl _) _
theorem below3d {w w0 w1 : World} {B : Nat} {T : TypeId} {cs : Array Value} (h0 : w0 = (w.alloc (.cells cs T)).drew) (hb : Below B w0 w1) (hB : w.heap.size ≤ B) (x y z : Value) :
    Below w.heap.size w (((w1.setCell ⟨w.heap.size, 0, none⟩ x).setCell ⟨w.heap.size, 1, none⟩ y).setCell ⟨w.heap.size, 2, none⟩ z) := by
  subst h0
  have h1 : Below w.heap.size w (w.alloc (.cells cs T)).drew := ((Below.refl _ _).alloc (Nat.le_refl _) _).drew
  exact (((h1.trans (hb.mono hB)).setCell (p := ⟨w.heap.size, 0, none⟩) (Nat.le_refl _) _).setCell (p := ⟨w.heap.size, 1, none⟩) (Nat.le_refl _) _).setCell (p := ⟨w.heap.size, 2, none⟩) (Nat.le_refl _) _

/-- copy(d, t), t a string no longer than d, d in a row that is known whole. -/
theorem wpList_copy_str {w : World} {ops : Array Oper} {rest : List Oper} {o : Oper} {a : Act} {Q : Exit → Act → World → Prop} (hgd : o.guard = none) (d s : Operand)
    (ho : o.op = .call { callee := .builtin .copy, args := #[d, s], argTypes := #[79, 9] })
    (dp : Option Addr) (dLen dCap : Nat) (hd : a.eval d = .slice dp dLen dCap) (t : ByteArray) (hs : a.eval s = .string t)
    (g off : Nat) (cur : List Value) (hg : w.heap[g]? = some (.cells cur.toArray 5 (0, 0)))
    (hpos : 0 < t.size → dp = some ⟨g, off, none⟩) (hle : t.size ≤ dLen) (hfit : off + t.size ≤ cur.length) (B : Nat) (w0 : World) (hb : Below B w0 w) (hBg : B ≤ g)
    (h : ∀ w', Hid (w'.heap[g]? = some (.cells (splice cur off (cellsB t.data.toList)).toArray 5 (0, 0))) → Below B w0 w' → wpList Tryd.prog ops Q rest (a.put o.dst (goInt t.size)) w') :
    wpList Tryd.prog ops Q (o :: rest) a w := by
  refine wpList_plain hgd fun K hK => ?_
  by_cases h0 : t.size = 0
  · have hrun := Lib.run_copy_empty_string (P := Tryd.prog) w 79 9 o.type 5 dp dLen dCap t Tryd.underlying79 (by rw [u8_size]; rfl) h0
    unfold Oper.wp
    simp [execOp, ho, resolve, invoke, builtin, hd, hs, hrun, Result.andThen]
    have hl : t.data.toList = [] := List.eq_nil_of_length_eq_zero (by simpa using h0)
    rw [h0] at h
    exact hK _ _ (h w (show _ = _ by rw [hl]; simpa [splice, cellsB] using hg) hb)
  · obtain rfl := hpos (by omega)
    have hrun := Lib.run_copy_row_string (P := Tryd.prog) w 79 9 o.type 5 g off dLen dCap t cur.toArray 5 Tryd.underlying79 u8_size hg hle (by simpa using hfit)
    unfold Oper.wp
    simp [execOp, ho, resolve, invoke, builtin, hd, hs, hrun, Result.andThen]
    refine hK _ _ (h _ (show _ = _ from ?_) (below_setRow hb hBg _))
    rw [setRow_heap w g _ _ 5 _ hg]
    simp [splice, cellsB, Lib.byteCells]

theorem made_row {w : World} {base g n : Nat} {zs : List Value} (h : w.ownsRow base 5 1 (.slice (some ⟨g, 0, none⟩) n n) n zs) :
    ∃ Z : List Value, Hid (w.heap[g]? = some (.cells Z.toArray 5 (0, 0))) ∧ Z.length = n := by
  rcases h.2 with ⟨hv, _⟩ | ⟨g', cap, cur, hv, _, hg, _, _, hcs, _⟩
  · cases hv
  · simp only [Value.slice.injEq, Option.some.injEq, Addr.mk.injEq] at hv
    obtain ⟨⟨rfl, _⟩, _, rfl⟩ := hv
    exact ⟨cur.toList, by simpa [Hid] using hg, by simp; omega⟩

theorem splice2 {α : Type} (Z X Y : List α) (hZ : Z.length = X.length + Y.length) : splice (splice Z 0 X) X.length Y = X ++ Y := by
  unfold splice
  have e1 : Z.take 0 ++ (X ++ Z.drop (0 + X.length)) = X ++ Z.drop X.length := by simp
  rw [e1]
  have e2 : (X ++ Z.drop X.length).take X.length = X := by simp
  have e3 : (X ++ Z.drop X.length).drop (X.length + Y.length) = [] := by
    rw [List.drop_append]; simp; omega
  rw [e2, e3]; simp

theorem joined_str {w : World} {g : Nat} {a b : ByteArray} {Z : List Value} (h : w.heap[g]? = some (.cells (splice (splice Z 0 (cellsB a.data.toList)) a.size (cellsB b.data.toList)).toArray 5 (0, 0)))
    (hZ : Z.length = a.size + b.size) (hl : a.size + b.size ≤ 1099511627776) :
    (convert 79 9 (.slice (some ⟨g, 0, none⟩) (a.size + b.size) (a.size + b.size))).run Tryd.prog w = .ok (.string ⟨(a.data.toList ++ b.data.toList).toArray⟩) w := by
  have e : splice (splice Z 0 (cellsB a.data.toList)) a.size (cellsB b.data.toList) = cellsB (a.data.toList ++ b.data.toList) := by
    have := splice2 Z (cellsB a.data.toList) (cellsB b.data.toList) (by simp [cellsB]; omega)
    have hl : (cellsB a.data.toList).length = a.size := by simp [cellsB]
    rw [hl] at this
    rw [this]; simp [cellsB]
  rw [e] at h
  have hlen : (a.data.toList ++ b.data.toList).length = a.size + b.size := by simp
  have := (OwnB.of_row (base := 0) h (Nat.zero_le _) (by rw [hlen]; unfold maxLen; omega)).str
  rwa [hlen] at this

theorem nil_list {b : ByteArray} (h : b.size = 0) : b.data.toList = [] := List.eq_nil_of_length_eq_zero (by simpa using h)
theorem joined_str0 {w : World} {g : Nat} {a b : ByteArray} {Z V : List Value} (h : w.heap[g]? = some (.cells (splice (splice Z 0 (cellsB a.data.toList)) a.size V).toArray 5 (0, 0))) (hV : V = cellsB b.data.toList)
    (hZ : Z.length = a.size + b.size) (hl : a.size + b.size ≤ 1099511627776) :
    (convert 79 9 (.slice (some ⟨g, 0, none⟩) (a.size + b.size) (a.size + b.size))).run Tryd.prog w = .ok (.string ⟨(a.data.toList ++ b.data.toList).toArray⟩) w :=
  joined_str (by rw [← hV]; exact h) hZ hl

theorem empty_of {b : ByteArray} (h : b.size = 0) : b = ByteArray.empty := by
  cases b with | mk d => cases d with | mk l => cases l with
    | nil => rfl
    | cons c l => simp [ByteArray.size] at h
end Go.Proofs.YtfdhmkmeffgkgaaDoor
