/- Walks: laws.toVal. -/
import Derived.Test.YtflpfphfoibggaaDoorToVaW
namespace Go.Proofs.YtflpfphfoibggaaDoor
open Go.RowKit

theorem toVa_end {w w1 : World} {k n : Int} {t : ByteArray} {it : List Va} {cs : List Value} {F : List Nat} {W0 : World} {u c0 c1 c2 c3 : Value} (hk : InI64' k) (hn : InI64' n) (ht : t.size ≤ 9223372036854775807)
    (hW : Below w.heap.size w W0) (hz : W0.heap.size = w.heap.size + 1 + 1 + 1) (hb : Below W0.heap.size W0 w1)
    (ho : w1.ownsRow W0.heap.size 55 4 (.slice (some ⟨W0.heap.size, 0, none⟩) it.length it.length) it.length cs) (ha : OwnVas w1 (W0.heap.size + 1) it cs F) (hF : F.Nodup) :
    ToVPost (.mk k n t it) w (.returned (.agg #[.int .i64 k, .int .i64 n, .string t, .slice (some ⟨W0.heap.size, 0, none⟩) it.length it.length]))
      (((((w1.setCell ⟨w.heap.size + 1 + 1, 3, none⟩ u).setCell ⟨w.heap.size + 1, 0, none⟩ c0).setCell ⟨w.heap.size + 1, 1, none⟩ c1).setCell ⟨w.heap.size + 1, 2, none⟩ c2).setCell ⟨w.heap.size + 1, 3, none⟩ c3) := by
  have e3 : ∀ g, g ≠ w.heap.size + 1 → g ≠ w.heap.size + 1 + 1 → (((((w1.setCell ⟨w.heap.size + 1 + 1, 3, none⟩ u).setCell ⟨w.heap.size + 1, 0, none⟩ c0).setCell ⟨w.heap.size + 1, 1, none⟩ c1).setCell ⟨w.heap.size + 1, 2, none⟩ c2).setCell ⟨w.heap.size + 1, 3, none⟩ c3).heap[g]? = w1.heap[g]? := fun g h1 h2 => by
    rw [Below.heap_setCell _ _ _ _ h1, Below.heap_setCell _ _ _ _ h1, Below.heap_setCell _ _ _ _ h1, Below.heap_setCell _ _ _ _ h1, Below.heap_setCell _ _ _ _ h2]
  have hlF := ha.lt
  refine ⟨_, _, _, _, W0.heap.size :: F, rfl, ?_, ?_, ?_⟩
  · simp only [OwnVa]
    refine ⟨_, cs, F, rfl, hk, hn, ht, own_mono (own_block ho fun g hg => ?_) (by omega), ha.move (by omega) fun g hg => ?_, rfl⟩
    · simp [blkOf] at hg
      subst hg
      rw [e3 _ (by omega) (by omega)]
    · have := hlF g hg
      rw [e3 _ (by omega) (by omega)]
  · refine List.nodup_cons.2 ⟨fun h => ?_, hF⟩
    have := hlF _ h; omega
  · have hbb := hW.trans (hb.mono (by omega))
    exact set4_below (hbb.setCell (p := ⟨w.heap.size + 1 + 1, 3, none⟩) (by show _ ≤ w.heap.size + 1 + 1; omega) _) (by omega) _ _ _ _

set_option maxRecDepth 100000 in
set_option maxHeartbeats 1000000 in
theorem toVa_any : ∀ x, ToVAt x := by
  refine Va.ind fun k n t it ih v w h hsz => ?_
  obtain ⟨vp, rfl, h1, h2, h3, h4⟩ := h.parts
  simp only [Va.sz] at hsz
  have IH := Lib.hid ih
  have H1 := Lib.hid h1
  have H2 := Lib.hid h2
  have H3 := Lib.hid h3
  have H4 := Lib.hid h4
  have l3 : it.length + Va.szs it ≤ 1048576 := by omega
  clear h ih h1 h2 h4 hsz
  have hB0 : ∀ o1 o2 o3 : Obj, Below w.heap.size w (((w.alloc o1).alloc o2).alloc o3) := fun o1 o2 o3 => ((below_alloc w o1).alloc (by simp) o2).alloc (by simp; omega) o3
  have HB0 := Lib.hid hB0
  have HN := Lib.hid (three_new w)
  clear hB0
  go_enter Tryd.func34, Tryd.ntmps34
  go_wp2_with fail
  obtain ⟨W0, hW0⟩ : ∃ W0, W0 = (((w.alloc (.cells #[.int .i64 k, .int .i64 n, .string t, vp] 50)).alloc (.cells #[.int .i64 0, .int .i64 0, .string ⟨#[]⟩, .slice none 0 0] 55)).alloc (.cells #[.int .i64 k, .int .i64 n, .string t, .slice none 0 0] 55)) := ⟨_, rfl⟩
  have HBW : Hid (Below w.heap.size w W0) := by show Below _ _ _; rw [hW0]; exact HB0.out _ _ _
  have HZ : Hid (W0.heap.size = w.heap.size + 1 + 1 + 1) := by show _ = _; rw [hW0]; simp
  obtain ⟨n0, n1, n2⟩ := HN.out (.cells #[.int .i64 k, .int .i64 n, .string t, vp] 50) (.cells #[.int .i64 0, .int .i64 0, .string ⟨#[]⟩, .slice none 0 0] 55) (.cells #[.int .i64 k, .int .i64 n, .string t, .slice none 0 0] 55)
  rw [← hW0] at n0 n1 n2 ⊢
  refine (toVas_any _ it (fun x hx => IH.out x hx) _ (H4.out.keep (Keeps.of_below HBW.out)) l3).mono ?_
  rintro e w1 ⟨cs, F, rfl, ho3, ha3, hn3, hb3, hz3⟩
  have B3 := Lib.hid (blk_below n1 hb3 (by have := HZ.out; omega))
  have C3 := Lib.hid (blk_below n2 hb3 (by have := HZ.out; omega))
  have HO3 := Lib.hid ho3
  have HA3 := Lib.hid ha3
  have HN3 := Lib.hid hn3
  have HB3 := Lib.hid hb3
  clear ho3 ha3 hn3 hb3 n0 n1 n2 hz3 hW0
  obtain ⟨b0, b1, b2, b3, e0, e1, e2, e3, ez⟩ := blk4 B3.out
  obtain ⟨d0, d1, d2, d3, f0, f1, f2, f3, dz⟩ := blk4 C3.out
  go_wp2_with fail
  refine bodyPost_ret (v := .agg #[.int .i64 k, .int .i64 n, .string t, .slice (some ⟨W0.heap.size, 0, none⟩) it.length it.length]) ?_ rfl ?_
  · simp [results, Tryd.results34, go_sem, b0, b1, b2, b3]
  · exact toVa_end H1.out H2.out H3.out HBW.out HZ.out HB3.out HO3.out HA3.out HN3.out
end Go.Proofs.YtflpfphfoibggaaDoor
