/- Walk: impl.EditBack. -/
import Derived.Test.YtmdlciomhkielaaDoorGUndW
namespace Go.Proofs.YtmdlciomhkielaaDoor
open Go.RowKit

theorem own_zero (w : World) (B : Nat) : OwnEd w B edZero (.agg #[.int .i64 0, .slice none 0 0, .int .i64 0, .string ⟨#[]⟩, .string ⟨#[]⟩, .int .i64 0, .slice none 0 0, .slice none 0 0, .slice none 0 0, .int .i64 0, .slice none 0 0, .slice none 0 0, .slice none 0 0]) [] := by
  have hs : OwnStrs w B (.slice none 0 0) [] := ⟨by simp, World.ownsRow_nil _ _ _ _⟩
  have hz : OwnSh w B (.mk 0 [] [] []) (.agg #[.int .i64 0, .slice none 0 0, .slice none 0 0, .slice none 0 0]) [] := by
    simp only [OwnSh, OwnAll]
    exact ⟨_, _, _, [], [], rfl, by unfold InI64'; omega, hs, hs, World.ownsRow_nil _ _ _ _, ⟨rfl, rfl⟩, by simp [blkOf]⟩
  exact ⟨none, 0, none, 0, 0, none, 0, 0, none, 0, 0, none, 0, 0, none, 0, 0, none, 0, 0, [], [], rfl, by unfold InI64' edZero; simp, by unfold InI64' edZero; simp, show (⟨#[]⟩ : ByteArray).size ≤ 9223372036854775807 by decide, show (⟨#[]⟩ : ByteArray).size ≤ 9223372036854775807 by decide, hs, hz, hz, by simp [blkOf]⟩
theorem ed_ret {r : Ed} {w u V wf : World} {d : Nat} {v : Value} {F : List Nat} (ho : OwnEd V u.heap.size r v F) (hn : F.Nodup) (hy : Only [d] V wf) (h0 : w.heap.size ≤ u.heap.size) (hd : d < u.heap.size) (hd0 : w.heap.size ≤ d) (hb : Below w.heap.size w V) : EdPost r w (.returned v) wf :=
  ⟨_, _, rfl, OwnEd.move h0 (fun g hg => by have q := OwnEd.blocks ho g hg; exact hy.block g q.2 (by simp; omega)) ho, hn, hb.trans (hy.below hb.size (by simpa using hd0))⟩

end Go.Proofs.YtmdlciomhkielaaDoor
