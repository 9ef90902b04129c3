/- Walks: impl.joined, impl.tooLong. -/
import Derived.Test.YtfdhmkmeffgkgaaDoorGOwn
import Derived.WalkLawsBesides
import Derived.Lib.Hide
import Derived.Lib.BufferWrite
import Derived.Laws.CopyOwn
import Derived.Outline
namespace Go.Proofs.YtfdhmkmeffgkgaaDoor
open Go.RowKit

theorem u8_size : (Tryd.prog.info? 5).map (·.size) = some 1 := by kernel_rfl

theorem OwnB.of_row {w : World} {base g : Nat} {l : List UInt8} (hg : w.heap[g]? = some (.cells (cellsB l).toArray 5 (0, 0))) (hb : base ≤ g) (hl : l.length ≤ maxLen) : OwnB w base (.slice (some ⟨g, 0, none⟩) l.length l.length) l :=
  ⟨by simp [cellsB], .inr ⟨g, l.length, _, rfl, hb, hg, Nat.le_refl _, hl, by simp [cellsB], by rw [List.take_of_length_le (by simp [cellsB])]⟩⟩

/-- Three cells of a block of the call's own. -/
theorem below3 {w w0 w1 : World} {B : Nat} {T : TypeId} {cs : Array Value} (h0 : w0 = w.alloc (.cells cs T)) (hb : Below B w0 w1) (hB : w.heap.size ≤ B) (x y z : Value) :
    Below w.heap.size w (((w1.setCell ⟨w.heap.size, 0, none⟩ x).setCell ⟨w.heap.size, 1, none⟩ y).setCell ⟨w.heap.size, 2, none⟩ z) := by
  subst h0
  have h1 : Below w.heap.size w (w.alloc (.cells cs T)) := (Below.refl _ _).alloc (Nat.le_refl _) _
  exact (((h1.trans (hb.mono hB)).setCell (p := ⟨w.heap.size, 0, none⟩) (Nat.le_refl _) _).setCell (p := ⟨w.heap.size, 1, none⟩) (Nat.le_refl _) _).setCell (p := ⟨w.heap.size, 2, none⟩) (Nat.le_refl _) _
theorem below3d {w w0 w1 : World} {B : Nat} {T : TypeId} {cs : Array Value} (h0 : w0 = (w.alloc (.cells cs T)).drew) (hb : Below B w0 w1) (hB : w.heap.size ≤ B) (x y z : Value) :
    Below w.heap.size w (((w1.setCell ⟨w.heap.size, 0, none⟩ x).setCell ⟨w.heap.size, 1, none⟩ y).setCell ⟨w.heap.size, 2, none⟩ z) := by
  subst h0
  have h1 : Below w.heap.size w (w.alloc (.cells cs T)).drew := ((Below.refl _ _).alloc (Nat.le_refl _) _).drew
  exact (((h1.trans (hb.mono hB)).setCell (p := ⟨w.heap.size, 0, none⟩) (Nat.le_refl _) _).setCell (p := ⟨w.heap.size, 1, none⟩) (Nat.le_refl _) _).setCell (p := ⟨w.heap.size, 2, none⟩) (Nat.le_refl _) _

/-- copy(d, t), t a string no longer than d, d in a row that is known whole. -/
theorem wpList_copy_str {w : World} {ops : Array Oper} {rest : List Oper} {o : Oper} {a : Act} {Q : Exit → Act → World → Prop} (hgd : o.guard = none) (d s : Operand)
    (ho : o.op = .call { callee := .builtin .copy, args := #[d, s], argTypes := #[79, 9] })
    (dp : Option Addr) (dLen dCap : Nat) (hd : a.eval d = .slice dp dLen dCap) (t : ByteArray) (hs : a.eval s = .string t)
    (g off : Nat) (cur : List Value) (hg : w.heap[g]? = some (.cells cur.toArray 5 (0, 0)))
    (hpos : 0 < t.size → dp = some ⟨g, off, none⟩) (hle : t.size ≤ dLen) (hfit : off + t.size ≤ cur.length) (B : Nat) (w0 : World) (hb : Below B w0 w) (hBg : B ≤ g)
    (h : ∀ w', Hid (w'.heap[g]? = some (.cells (splice cur off (cellsB t.data.toList)).toArray 5 (0, 0))) → Below B w0 w' → wpList Tryd.prog ops Q rest (a.put o.dst (goInt t.size)) w') :
    wpList Tryd.prog ops Q (o :: rest) a w := by
  refine wpList_plain hgd fun K hK => ?_
  by_cases h0 : t.size = 0
  · have hrun := Lib.run_copy_empty_string (P := Tryd.prog) w 79 9 o.type 5 dp dLen dCap t Tryd.underlying79 (by rw [u8_size]; rfl) h0
    unfold Oper.wp
    simp [execOp, ho, resolve, invoke, builtin, hd, hs, hrun, Result.andThen]
    have hl : t.data.toList = [] := List.eq_nil_of_length_eq_zero (by simpa using h0)
    rw [h0] at h
    exact hK _ _ (h w (show _ = _ by rw [hl]; simpa [splice, cellsB] using hg) hb)
  · obtain rfl := hpos (by omega)
    have hrun := Lib.run_copy_row_string (P := Tryd.prog) w 79 9 o.type 5 g off dLen dCap t cur.toArray 5 Tryd.underlying79 u8_size hg hle (by simpa using hfit)
    unfold Oper.wp
    simp [execOp, ho, resolve, invoke, builtin, hd, hs, hrun, Result.andThen]
    refine hK _ _ (h _ (show _ = _ from ?_) (below_setRow hb hBg _))
    rw [setRow_heap w g _ _ 5 _ hg]
    simp [splice, cellsB, Lib.byteCells]

theorem made_row {w : World} {base g n : Nat} {zs : List Value} (h : w.ownsRow base 5 1 (.slice (some ⟨g, 0, none⟩) n n) n zs) :
    ∃ Z : List Value, Hid (w.heap[g]? = some (.cells Z.toArray 5 (0, 0))) ∧ Z.length = n := by
  rcases h.2 with ⟨hv, _⟩ | ⟨g', cap, cur, hv, _, hg, _, _, hcs, _⟩
  · cases hv
  · simp only [Value.slice.injEq, Option.some.injEq, Addr.mk.injEq] at hv
    obtain ⟨⟨rfl, _⟩, _, rfl⟩ := hv
    exact ⟨cur.toList, by simpa [Hid] using hg, by simp; omega⟩

theorem splice2 {α : Type} (Z X Y : List α) (hZ : Z.length = X.length + Y.length) : splice (splice Z 0 X) X.length Y = X ++ Y := by
  unfold splice
  have e1 : Z.take 0 ++ (X ++ Z.drop (0 + X.length)) = X ++ Z.drop X.length := by simp
  rw [e1]
  have e2 : (X ++ Z.drop X.length).take X.length = X := by simp
  have e3 : (X ++ Z.drop X.length).drop (X.length + Y.length) = [] := by
    rw [List.drop_append]; simp; omega
  rw [e2, e3]; simp

theorem joined_str {w : World} {g : Nat} {a b : ByteArray} {Z : List Value} (h : w.heap[g]? = some (.cells (splice (splice Z 0 (cellsB a.data.toList)) a.size (cellsB b.data.toList)).toArray 5 (0, 0)))
    (hZ : Z.length = a.size + b.size) (hl : a.size + b.size ≤ 1099511627776) :
    (convert 79 9 (.slice (some ⟨g, 0, none⟩) (a.size + b.size) (a.size + b.size))).run Tryd.prog w = .ok (.string ⟨(a.data.toList ++ b.data.toList).toArray⟩) w := by
  have e : splice (splice Z 0 (cellsB a.data.toList)) a.size (cellsB b.data.toList) = cellsB (a.data.toList ++ b.data.toList) := by
    have := splice2 Z (cellsB a.data.toList) (cellsB b.data.toList) (by simp [cellsB]; omega)
    have hl : (cellsB a.data.toList).length = a.size := by simp [cellsB]
    rw [hl] at this
    rw [this]; simp [cellsB]
  rw [e] at h
  have hlen : (a.data.toList ++ b.data.toList).length = a.size + b.size := by simp
  have := (OwnB.of_row (base := 0) h (Nat.zero_le _) (by rw [hlen]; unfold maxLen; omega)).str
  rwa [hlen] at this

theorem nil_list {b : ByteArray} (h : b.size = 0) : b.data.toList = [] := List.eq_nil_of_length_eq_zero (by simpa using h)
theorem joined_str0 {w : World} {g : Nat} {a b : ByteArray} {Z V : List Value} (h : w.heap[g]? = some (.cells (splice (splice Z 0 (cellsB a.data.toList)) a.size V).toArray 5 (0, 0))) (hV : V = cellsB b.data.toList)
    (hZ : Z.length = a.size + b.size) (hl : a.size + b.size ≤ 1099511627776) :
    (convert 79 9 (.slice (some ⟨g, 0, none⟩) (a.size + b.size) (a.size + b.size))).run Tryd.prog w = .ok (.string ⟨(a.data.toList ++ b.data.toList).toArray⟩) w :=
  joined_str (by rw [← hV]; exact h) hZ hl

theorem empty_of {b : ByteArray} (h : b.size = 0) : b = ByteArray.empty := by
  cases b with | mk d => cases d with | mk l => cases l with
    | nil => rfl
    | cons c l => simp [ByteArray.size] at h
end Go.Proofs.YtfdhmkmeffgkgaaDoor
