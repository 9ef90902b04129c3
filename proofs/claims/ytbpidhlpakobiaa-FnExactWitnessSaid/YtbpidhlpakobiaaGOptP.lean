/- Plain: where the row of a Val's Items lies. -/
import Derived.Test.YtbpidhlpakobiaaGRdaP
namespace Go.Proofs.Ytbpidhlpakobiaa
open Go.RowKit

/-- Where the row of a Val's Items lies. -/
theorem own_ptr {w : World} {B m : Nat} {k n : Int} {t : ByteArray} {it : List Va} {p : Option Addr} {F : List Nat} (h : OwnVa w B (.mk k n t it) (.agg #[.int .i64 k, .int .i64 n, .string t, .slice p it.length m]) F) (h0 : 0 < it.length) : ∃ g, p = some ⟨g, 0, none⟩ ∧ B ≤ g ∧ g < w.heap.size := by
  obtain ⟨vp, cs, Fs, e, hk, hnn, ht, hr, ho, rfl⟩ := h.parts
  simp only [Value.agg.injEq, Array.mk.injEq, List.cons.injEq, and_true, true_and] at e
  subst e
  obtain ⟨hl, ⟨hv, hz⟩ | ⟨g, cap, cur, hv, hb, hg, _⟩⟩ := hr
  · omega
  · simp only [Value.slice.injEq, true_and] at hv
    obtain ⟨rfl, rfl⟩ := hv
    exact ⟨g, rfl, hb, (Array.getElem?_eq_some_iff.1 hg).1⟩
end Go.Proofs.Ytbpidhlpakobiaa
