/- Walks: laws.toVal. -/
import Derived.Test.YthllilkokkijaaaToVaW
namespace Go.Proofs.Ythllilkokkijaaa
open Go.RowKit

theorem toVa_end {w w1 : World} {k n : Int} {t : ByteArray} {it : List Va} {cs : List Value} {F : List Nat} {W0 : World} {u c0 c1 c2 c3 : Value} (hk : InI64' k) (hn : InI64' n) (ht : t.size ≤ 9223372036854775807)
    (hW : Below w.heap.size w W0) (hz : W0.heap.size = w.heap.size + 1 + 1 + 1) (hb : Below W0.heap.size W0 w1)
    (ho : w1.ownsRow W0.heap.size 112 4 (.slice (some ⟨W0.heap.size, 0, none⟩) it.length it.length) it.length cs) (ha : OwnVas w1 (W0.heap.size + 1) it cs F) (hF : F.Nodup) :
    ToVPost (.mk k n t it) w (.returned (.agg #[.int .i64 k, .int .i64 n, .string t, .slice (some ⟨W0.heap.size, 0, none⟩) it.length it.length]))
      (((((w1.setCell ⟨w.heap.size + 1 + 1, 3, none⟩ u).setCell ⟨w.heap.size + 1, 0, none⟩ c0).setCell ⟨w.heap.size + 1, 1, none⟩ c1).setCell ⟨w.heap.size + 1, 2, none⟩ c2).setCell ⟨w.heap.size + 1, 3, none⟩ c3) := by
  have e3 : ∀ g, g ≠ w.heap.size + 1 → g ≠ w.heap.size + 1 + 1 → (((((w1.setCell ⟨w.heap.size + 1 + 1, 3, none⟩ u).setCell ⟨w.heap.size + 1, 0, none⟩ c0).setCell ⟨w.heap.size + 1, 1, none⟩ c1).setCell ⟨w.heap.size + 1, 2, none⟩ c2).setCell ⟨w.heap.size + 1, 3, none⟩ c3).heap[g]? = w1.heap[g]? := fun g h1 h2 => by
    rw [Below.heap_setCell _ _ _ _ h1, Below.heap_setCell _ _ _ _ h1, Below.heap_setCell _ _ _ _ h1, Below.heap_setCell _ _ _ _ h1, Below.heap_setCell _ _ _ _ h2]
  have hlF := ha.lt
  refine ⟨_, _, _, _, W0.heap.size :: F, rfl, ?_, ?_, ?_⟩
  · simp only [OwnVa]
    refine ⟨_, cs, F, rfl, hk, hn, ht, own_mono (own_block ho fun g hg => ?_) (by omega), ha.move (by omega) fun g hg => ?_, rfl⟩
    · simp [blkOf] at hg
      subst hg
      rw [e3 _ (by omega) (by omega)]
    · have := hlF g hg
      rw [e3 _ (by omega) (by omega)]
  · refine List.nodup_cons.2 ⟨fun h => ?_, hF⟩
    have := hlF _ h; omega
  · have hbb := hW.trans (hb.mono (by omega))
    exact set4_below (hbb.setCell (p := ⟨w.heap.size + 1 + 1, 3, none⟩) (by show _ ≤ w.heap.size + 1 + 1; omega) _) (by omega) _ _ _ _

end Go.Proofs.Ythllilkokkijaaa
