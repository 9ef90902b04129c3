/- Walks: laws.toValS, laws.toVal: an argument in memory of the law's own. · Walks: laws.toVal. -/
import Derived.Test.YtfdhmkmeffgkgaaDoorGOwnA
import Derived.Test.YtfdhmkmeffgkgaaDoorGSzA
import Derived.Test.YtfdhmkmeffgkgaaDoorGToW
namespace Go.Proofs.YtfdhmkmeffgkgaaDoor
open Go.RowKit

theorem info_val : (Tryd.prog.info? 125).map (fun i => (i.zero, i.size, i.bytes)) = some (some (.agg #[.int .i64 0, .int .i64 0, .string ⟨#[]⟩, .slice none 0 0]), 4, 56) := by kernel_rfl
/-- make([]impl.Val, n). -/
theorem make_vals (n : Nat) (h : n ≤ 1048576) (w : World) :
    (Instr.makeSlice 123 (.int .i64 (n : Int)) (.int .i64 (n : Int))).run Tryd.prog w = .ok (.slice (some ⟨w.heap.size, 0, none⟩) n n) (w.alloc (.cells (madeCells #[.int .i64 0, .int .i64 0, .string ⟨#[]⟩, .slice none 0 0] (n * 4)) 125)) := by
  obtain ⟨i, hi, hz, hs, hb⟩ := info_parts info_val
  have := run_make (P := Tryd.prog) w 123 125 i _ Tryd.underlying123 hi hz .i64 .i64 n n (by omega) (Int.le_refl _) (by rw [hb]; omega) (by omega)
  simpa [hs, Value.cells] using this

/-- What toVal leaves. -/
def ToVPost (x : Va) (w : World) (e : Ending) (w' : World) : Prop :=
  ∃ c0 c1 c2 c3 F, e = .returned (.agg #[c0, c1, c2, c3]) ∧ OwnVa w' w.heap.size x (.agg #[c0, c1, c2, c3]) F ∧ F.Nodup ∧ Below w.heap.size w w'
/-- What toValS leaves. -/
def TosVPost (l : List Va) (w : World) (e : Ending) (w' : World) : Prop :=
  ∃ cs F, e = .returned (.slice (some ⟨w.heap.size, 0, none⟩) l.length l.length) ∧ w'.ownsRow w.heap.size 125 4 (.slice (some ⟨w.heap.size, 0, none⟩) l.length l.length) l.length cs ∧
    OwnVas w' (w.heap.size + 1) l cs F ∧ F.Nodup ∧ Below w.heap.size w w' ∧ w.heap.size < w'.heap.size

theorem vsz_mem {l : List Va} {k : Nat} (h : k < l.length) : l[k].sz ≤ Va.szs l := by
  have h1 := vszs_take l k h
  have h2 := vszs_take_le l (k + 1)
  omega

/-- One round of toValS. -/
theorem tovs_step {w wr w1 : World} {l : List Va} {k : Nat} {cs : List Value} {F F1 : List Nat} {c0 c1 c2 c3 : Value} (hk : k < l.length) (hA : OwnVas wr (w.heap.size + 1) (l.take k) cs F) (hN : F.Nodup)
    (hF : Filled wr w.heap.size 125 cs ((l.length - k) * 4)) (hB : Below w.heap.size w wr) (h1 : OwnVa w1 wr.heap.size l[k] (.agg #[c0, c1, c2, c3]) F1) (hN1 : F1.Nodup) (hB1 : Below wr.heap.size wr w1) :
    OwnVas ((((w1.setCell ⟨w.heap.size, k * 4, none⟩ c0).setCell ⟨w.heap.size, k * 4 + 1, none⟩ c1).setCell ⟨w.heap.size, k * 4 + 2, none⟩ c2).setCell ⟨w.heap.size, k * 4 + 3, none⟩ c3) (w.heap.size + 1) (l.take (k + 1)) (cs ++ [c0, c1, c2, c3]) (F ++ F1) ∧
    (F ++ F1).Nodup ∧
    Filled ((((w1.setCell ⟨w.heap.size, k * 4, none⟩ c0).setCell ⟨w.heap.size, k * 4 + 1, none⟩ c1).setCell ⟨w.heap.size, k * 4 + 2, none⟩ c2).setCell ⟨w.heap.size, k * 4 + 3, none⟩ c3) w.heap.size 125 (cs ++ [c0, c1, c2, c3]) ((l.length - (k + 1)) * 4) ∧
    Below w.heap.size w ((((w1.setCell ⟨w.heap.size, k * 4, none⟩ c0).setCell ⟨w.heap.size, k * 4 + 1, none⟩ c1).setCell ⟨w.heap.size, k * 4 + 2, none⟩ c2).setCell ⟨w.heap.size, k * 4 + 3, none⟩ c3) := by
  have hlt := hF.lt
  have hlen := hA.len
  have e : (l.take k).length = k := by simp; omega
  rw [e] at hlen
  have hlF := hA.lt
  have hlF1 := OwnVa.blocks _ _ _ h1
  have hA1 : OwnVas w1 (w.heap.size + 1) (l.take k) cs F := hA.move (Nat.le_refl _) fun g hg => hB1.block g (hlF g hg).2
  have h1' : OwnVa w1 (w.heap.size + 1) l[k] (.agg #[c0, c1, c2, c3]) F1 := OwnVa.move (by omega) _ _ _ (fun _ _ => rfl) h1
  have hs := OwnVas.snoc hA1 h1'
  rw [← List.take_succ_eq_append_getElem hk] at hs
  have hF1 : Filled w1 w.heap.size 125 cs ((l.length - (k + 1)) * 4 + 4) := by
    rw [show (l.length - (k + 1)) * 4 + 4 = (l.length - k) * 4 by omega]
    exact hF.block (hB1.block _ hlt)
  refine ⟨hs.move (Nat.le_refl _) fun g hg => set4_other (by have := hs.lt g hg; omega), ?_, hF1.set4 c0 c1 c2 c3 hlen.symm, set4_below (hB.trans (hB1.mono hB.size)) (Nat.le_refl _) _ _ _ _⟩
  rw [List.nodup_append]
  refine ⟨hN, hN1, fun a ha b hb => ?_⟩
  have := (hlF a ha).2
  have := (hlF1 b hb).1
  omega

end Go.Proofs.YtfdhmkmeffgkgaaDoor
namespace Go.Proofs.YtfdhmkmeffgkgaaDoor
open Go.RowKit

theorem toVa_end {w w1 : World} {k n : Int} {t : ByteArray} {it : List Va} {cs : List Value} {F : List Nat} {W0 : World} {u c0 c1 c2 c3 : Value} (hk : InI64' k) (hn : InI64' n) (ht : t.size ≤ 9223372036854775807)
    (hW : Below w.heap.size w W0) (hz : W0.heap.size = w.heap.size + 1 + 1 + 1) (hb : Below W0.heap.size W0 w1)
    (ho : w1.ownsRow W0.heap.size 125 4 (.slice (some ⟨W0.heap.size, 0, none⟩) it.length it.length) it.length cs) (ha : OwnVas w1 (W0.heap.size + 1) it cs F) (hF : F.Nodup) :
    ToVPost (.mk k n t it) w (.returned (.agg #[.int .i64 k, .int .i64 n, .string t, .slice (some ⟨W0.heap.size, 0, none⟩) it.length it.length]))
      (((((w1.setCell ⟨w.heap.size + 1 + 1, 3, none⟩ u).setCell ⟨w.heap.size + 1, 0, none⟩ c0).setCell ⟨w.heap.size + 1, 1, none⟩ c1).setCell ⟨w.heap.size + 1, 2, none⟩ c2).setCell ⟨w.heap.size + 1, 3, none⟩ c3) := by
  have e3 : ∀ g, g ≠ w.heap.size + 1 → g ≠ w.heap.size + 1 + 1 → (((((w1.setCell ⟨w.heap.size + 1 + 1, 3, none⟩ u).setCell ⟨w.heap.size + 1, 0, none⟩ c0).setCell ⟨w.heap.size + 1, 1, none⟩ c1).setCell ⟨w.heap.size + 1, 2, none⟩ c2).setCell ⟨w.heap.size + 1, 3, none⟩ c3).heap[g]? = w1.heap[g]? := fun g h1 h2 => by
    rw [Below.heap_setCell _ _ _ _ h1, Below.heap_setCell _ _ _ _ h1, Below.heap_setCell _ _ _ _ h1, Below.heap_setCell _ _ _ _ h1, Below.heap_setCell _ _ _ _ h2]
  have hlF := ha.lt
  refine ⟨_, _, _, _, W0.heap.size :: F, rfl, ?_, ?_, ?_⟩
  · simp only [OwnVa]
    refine ⟨_, cs, F, rfl, hk, hn, ht, own_mono (own_block ho fun g hg => ?_) (by omega), ha.move (by omega) fun g hg => ?_, rfl⟩
    · simp [blkOf] at hg
      subst hg
      rw [e3 _ (by omega) (by omega)]
    · have := hlF g hg
      rw [e3 _ (by omega) (by omega)]
  · refine List.nodup_cons.2 ⟨fun h => ?_, hF⟩
    have := hlF _ h; omega
  · have hbb := hW.trans (hb.mono (by omega))
    exact set4_below (hbb.setCell (p := ⟨w.heap.size + 1 + 1, 3, none⟩) (by show _ ≤ w.heap.size + 1 + 1; omega) _) (by omega) _ _ _ _

end Go.Proofs.YtfdhmkmeffgkgaaDoor
