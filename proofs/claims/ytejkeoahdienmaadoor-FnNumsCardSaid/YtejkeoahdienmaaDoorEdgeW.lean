/- Walks: the draws of numbers and texts. -/
import Derived.Test.YtejkeoahdienmaaDoorDrawW
namespace Go.Proofs.YtejkeoahdienmaaDoor
open Go.RowKit

theorem OnlyB.belowS {b : Nat} {w w0 w' : World} (h0 : Below b w0 w) (h : OnlyB b w w') (hb : b ≤ w.heap.size) : Below b w0 w' := h0.trans (h.below (Nat.le_refl _) hb)

def edgeL : List Int := [0, 1, -1, 2, 1000, 1001, 2147483648, 2147483647, -2147483648, 4611686018427387904, 9223372036854775807, -9223372036854775808, 1000000, 1000001]
theorem edge_in {k : Nat} (hk : k < 14) : InI64 (edgeL.getD k 0) := by
  unfold InI64 edgeL
  match k, hk with
  | 0, _ | 1, _ | 2, _ | 3, _ | 4, _ | 5, _ | 6, _ | 7, _ | 8, _ | 9, _ | 10, _ | 11, _ | 12, _ | 13, _ => simp
theorem edge_cell {w w1 : World} {b k : Nat} (hon : OnlyB b (w.alloc (.cells (edgeL.map (Value.int .i64)).toArray 2)) w1) (hb : b < w.heap.size) (hk : k < 14) :
    w1.cell? ⟨w.heap.size, k, none⟩ = some (.int .i64 (edgeL.getD k 0)) := by
  have h1 : w1.heap[w.heap.size]? = some (.cells (edgeL.map (Value.int .i64)).toArray 2) :=
    (hon.1.block w.heap.size (by simp) (fun e => by simp at e; omega)).trans (heap_alloc_new w _)
  rw [cell_of_row w1 w.heap.size k _ _ (0, 0) h1]
  have hl : edgeL.length = 14 := rfl
  simp [List.getElem?_eq_getElem (show k < edgeL.length by omega)]

set_option maxRecDepth 100000 in
set_option maxHeartbeats 1000000 in
theorem edge_any (b B : Nat) (w : World) (a : Option Addr) (len cap : Nat) (h : SrcIs w b a len cap) (hr : RowB w a len B) (hB : B ≤ b) (hbw : b < w.heap.size) :
    Calls Tryd.prog 30 #[.pointer (some ⟨b, 0, none⟩)] w fun e w' => ∃ v : Int, e = .returned (.int .i64 v) ∧ InI64 v ∧ Below b w w' := by
  have H := Lib.hid h
  have HR := Lib.hid hr
  clear h hr
  go_enter Tryd.func30, Tryd.ntmps30
  go_wp2_with fail
  refine (n_any b B 14 _ (by decide) a len cap (src_alloc H.out _) (HR.out.below ((Below.refl _ _).alloc (by omega) _))).mono ?_
  rintro e w1 ⟨v, rfl, hv0, hv1, hs, hon⟩
  obtain ⟨k, rfl⟩ := Int.eq_ofNat_of_zero_le hv0
  have hk : k < 14 := by omega
  have hcell := edge_cell hon hbw hk
  have HI := Lib.hid (edge_in hk)
  have HB := Lib.hid (((Below.refl b w).alloc (Nat.le_of_lt hbw) (.cells (edgeL.map (Value.int .i64)).toArray 2)).trans (hon.below (Nat.le_refl _) (by simp; omega)))
  generalize edgeL.getD k 0 = x at *
  clear hs hon hv1
  go_wp2_with fail
  go_ret
  exact ⟨x, rfl, HI.out, HB.out⟩

end Go.Proofs.YtejkeoahdienmaaDoor
