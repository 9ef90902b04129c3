/- Blocks, one behind the other. -/
import Derived.Test.YthllilkokkijaaaGOwnA
namespace Go.Proofs.Ythllilkokkijaaa
open Go.RowKit

theorem four_new (w : World) (o1 o2 o3 o4 : Obj) : ∃ W, W = (((w.alloc o1).alloc o2).alloc o3).alloc o4 ∧ Below w.heap.size w W ∧ W.heap.size = w.heap.size + 1 + 1 + 1 + 1 ∧ W.heap[w.heap.size]? = some o1 ∧ W.heap[w.heap.size + 1]? = some o2 ∧ W.heap[w.heap.size + 1 + 1]? = some o3 ∧ W.heap[w.heap.size + 1 + 1 + 1]? = some o4 := by
  obtain ⟨h1, h2, h3⟩ := three_new w o1 o2 o3
  have hz : (((w.alloc o1).alloc o2).alloc o3).heap.size = w.heap.size + 1 + 1 + 1 := by simp
  have hb := below_alloc (((w.alloc o1).alloc o2).alloc o3) o4
  refine ⟨_, rfl, (((below_alloc w _).alloc (by simp) _).alloc (by simp; omega) _).alloc (by simp; omega) _, by simp, blk_below h1 hb (by omega), blk_below h2 hb (by omega), blk_below h3 hb (by omega), ?_⟩
  rw [← hz]; exact Go.Deep.blk_alloc_new _ _
theorem five_new (w : World) (o1 o2 o3 o4 o5 : Obj) : ∃ W, W = ((((w.alloc o1).alloc o2).alloc o3).alloc o4).alloc o5 ∧ Below w.heap.size w W ∧ W.heap.size = w.heap.size + 1 + 1 + 1 + 1 + 1 ∧ W.heap[w.heap.size]? = some o1 ∧ W.heap[w.heap.size + 1]? = some o2 ∧ W.heap[w.heap.size + 1 + 1]? = some o3 ∧ W.heap[w.heap.size + 1 + 1 + 1]? = some o4 ∧ W.heap[w.heap.size + 1 + 1 + 1 + 1]? = some o5 := by
  obtain ⟨W, rfl, hb, hz, h1, h2, h3, h4⟩ := four_new w o1 o2 o3 o4
  have hb5 := below_alloc ((((w.alloc o1).alloc o2).alloc o3).alloc o4) o5
  refine ⟨_, rfl, hb.trans (hb5.mono hb.size), by simp, blk_below h1 hb5 (by omega), blk_below h2 hb5 (by omega), blk_below h3 hb5 (by omega), blk_below h4 hb5 (by omega), ?_⟩
  rw [← hz]; exact Go.Deep.blk_alloc_new _ _
end Go.Proofs.Ythllilkokkijaaa
