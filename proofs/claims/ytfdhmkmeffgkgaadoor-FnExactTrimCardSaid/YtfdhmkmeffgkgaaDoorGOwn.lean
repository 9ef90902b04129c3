/- Bytes that a call itself makes: what it owns of them, one byte more, and their string. -/
import Derived.Test.YtfdhmkmeffgkgaaDoorRows
import Derived.Test.YtfdhmkmeffgkgaaDoorGBase
import Derived.WalkKit
import Derived.WalkSpells
import Derived.Laws.BytesArg
namespace Go.Proofs.YtfdhmkmeffgkgaaDoor
open Go.RowKit

theorem u8_info : (Tryd.prog.info? 5).map (fun i => (i.zero, i.size, i.bytes)) = some (some (.int .u8 0), 1, 1) := by kernel_rfl

def cellsB (l : List UInt8) : List Value := l.map fun c => .int .u8 (c.toNat : Int)
/-- The value v is a slice of the call's own (nil, or in a block from base on) whose elements are the bytes l. -/
def OwnB (w : World) (base : Nat) (v : Value) (l : List UInt8) : Prop := w.ownsRow base 5 1 v l.length (cellsB l)

theorem OwnB.nil (w : World) (base : Nat) : OwnB w base (.slice none 0 0) [] := World.ownsRow_nil _ _ _ _
theorem OwnB.empty (w : World) (base : Nat) (hb : base ≤ w.heap.size) : OwnB (w.alloc (.cells #[] 5)) base (.slice (some ⟨w.heap.size, 0, none⟩) 0 0) [] :=
  World.ownsRow_made w #[] 0 hb (Nat.zero_le _) rfl

theorem OwnB.shape {w : World} {base : Nat} {v : Value} {l : List UInt8} (h : OwnB w base v l) : (v = .slice none 0 0 ∧ l = []) ∨ ∃ g cap, v = .slice (some ⟨g, 0, none⟩) l.length cap ∧ base ≤ g ∧ ∀ i, i < l.length → w.cell? ⟨g, 0 + i, none⟩ = some (.int .u8 ((l.map fun c => (c.toNat : Int)).getD i 0)) := by
  rcases h.2 with ⟨hv, hn⟩ | ⟨g, cap, cur, hv, hb, hg, hnc, hcm, hcs, htake⟩
  · exact .inl ⟨hv, List.eq_nil_of_length_eq_zero hn⟩
  · refine .inr ⟨g, cap, hv, hb, fun i hi => ?_⟩
    subst hv
    have := World.ownsRow.cellAt (show w.ownsRow base _ 1 (.slice (some ⟨g, 0, none⟩) l.length cap) l.length (cellsB l) from h) i (by omega)
    rw [Nat.zero_add, this]
    simp [cellsB, List.getElem?_eq_getElem hi, List.getD]

theorem OwnB.str {w : World} {base : Nat} {v : Value} {l : List UInt8} (h : OwnB w base v l) :
    (convert 79 9 v).run Tryd.prog w = .ok (.string ⟨l.toArray⟩) w := by
  rcases h.shape with ⟨rfl, rfl⟩ | ⟨g, cap, rfl, _, hc⟩
  · exact run_convert_bytes_nil w _ _ Tryd.underlying79 Tryd.underlying5 0 0 _ Tryd.underlying9
  · rw [run_convert_bytes_arg w _ _ Tryd.underlying79 Tryd.underlying5 g 0 l.length cap (l.map fun c => (c.toNat : Int)) (by simp) hc _ Tryd.underlying9]
    unfold strOfNums
    simp [List.map_map, Function.comp_def]

/-- append(v, c), c in a new cell. -/
theorem wpList_byte {ops : Array Oper} {rest : List Oper} {o : Oper} {a : Act} {Q : Exit → Act → World → Prop} (W : World) (hgd : o.guard = none) (s x : Operand)
    (ho : o.op = .call { callee := .builtin .append, args := #[s, x], argTypes := #[79, 79] })
    (base : Nat) (v : Value) (l : List UInt8) (n : Int) (c : UInt8) (hs : a.eval s = v) (hown : OwnB W base v l) (hx : a.eval x = .slice (some ⟨W.heap.size, 0, none⟩) 1 1)
    (hn : n = (c.toNat : Int)) (hl : l.length < 70368744177664) (hbase : base ≤ W.heap.size)
    (h : ∀ v' w', OwnB w' base v' (l ++ [c]) → (∀ B w0, Below B w0 W → B ≤ base → Below B w0 w') → wpList Tryd.prog ops Q rest (a.put o.dst v') w') :
    wpList Tryd.prog ops Q (o :: rest) a (W.alloc (.cells #[.int .u8 n] 5)) := by
  obtain ⟨i0, hi, hz0, hz1, hz2⟩ := info_parts u8_info
  subst hn
  refine wpList_append_own _ hgd s x _ ho base 5 i0 (.int .u8 0) 1 1 Tryd.underlying79 hi hz0 hz1 hz2 rfl (by decide) v l.length (cellsB l) hs (hown.alloc _) ⟨W.heap.size, 0, none⟩ 1 1 [.int .u8 (c.toNat : Int)] hx rfl ?_ ?_ (by unfold maxLen; omega) (by omega) (by simp; omega) ?_
  · intro j u hj
    match j, hj with
    | 0, hj => simp at hj; subst hj; simp [Addr.add]
  · intro u hu; simp at hu; subst hu; rfl
  · intro v' w' hown' hgrow _
    refine h v' w' (by simpa [OwnB, cellsB] using hown') fun B w0 hb hB => ?_
    have h2 := hb.alloc (show B ≤ W.heap.size by omega) (.cells #[.int .u8 (c.toNat : Int)] 5)
    refine h2.grown hgrow (by simp; omega) fun k hk => ?_
    have := hown.lt k hk
    omega
end Go.Proofs.YtfdhmkmeffgkgaaDoor
