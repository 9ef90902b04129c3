/- The copy of a shape with another part stored where a path leads. -/
import Derived.Test.YthllilkokkijaaaGSwapP
import Derived.Test.YthllilkokkijaaaGPutSP
namespace Go.Proofs.Ythllilkokkijaaa
open Go.RowKit

theorem row_thaw {w : World} {base T sz n : Nat} {v : Value} {xs : List Value} (h : w.ownsRow base T sz v n xs) : ∀ g ∈ blkOf v, ∀ o, w.frozen? ⟨g, o, none⟩ = false := by
  rcases h.2 with ⟨rfl, _⟩ | ⟨g, cap, cur, rfl, _, hg, _⟩
  · intro g hg; cases hg
  · intro g' hg' o
    simp only [blkOf, List.mem_singleton] at hg'
    subst hg'
    simp [World.frozen?, hg]
theorem all_thaw {w : World} {base : Nat} : ∀ {l : List Sh} {cs : List Value} {F : List Nat}, (∀ x ∈ l, ∀ v F, OwnSh w base x v F → ∀ g ∈ F, ∀ o, w.frozen? ⟨g, o, none⟩ = false) → OwnAll w base l cs F → ∀ g ∈ F, ∀ o, w.frozen? ⟨g, o, none⟩ = false
  | [], cs, F, _, h => by
    simp only [OwnAll] at h
    rw [h.2]; intro g hg; cases hg
  | x :: l, cs, F, hx, h => by
    obtain ⟨c0, c1, c2, c3, cs', F1, F2, _, h1, h2, rfl⟩ := h.cons
    intro g hg
    rcases List.mem_append.1 hg with hg | hg
    · exact hx x (by simp) _ _ h1 g hg
    · exact all_thaw (fun y hy => hx y (by simp [hy])) h2 g hg
theorem own_thaw {w : World} {base : Nat} : ∀ (t : Sh) (v : Value) (F : List Nat), OwnSh w base t v F → ∀ g ∈ F, ∀ o, w.frozen? ⟨g, o, none⟩ = false := by
  refine Sh.ind fun k sy na su ih v F h => ?_
  obtain ⟨vs, vn, vp, cs, Fs, rfl, _, h2, h3, h4, h5, rfl⟩ := h.parts
  intro g hg
  simp only [List.mem_append] at hg
  rcases hg with hg | hg | hg | hg
  · exact row_thaw h2.2 g hg
  · exact row_thaw h3.2 g hg
  · exact row_thaw h4 g hg
  · exact all_thaw ih h5 g hg

/-- The place that a path leads to, in the copy. -/
theorem lead_in {w : World} {B : Nat} : ∀ (p : List ByteArray) (t u : Sh) (b o b' o' : Nat) (c0 c1 c2 c3 : Value) (F : List Nat), OwnSh w B t (.agg #[c0, c1, c2, c3]) F → w.cell? ⟨b, o + 3, none⟩ = some c3 → Leads w p t b o u b' o' → (b' = b ∧ o' = o ∧ p = []) ∨ b' ∈ F
  | [], t, u, b, o, b', o', c0, c1, c2, c3, F, h, hc, hl => by cases hl; exact .inl ⟨rfl, rfl, rfl⟩
  | s :: p, t, u, b, o, b', o', c0, c1, c2, c3, F, h, hc, hl => by
    right
    cases t with | mk k sy na su =>
    obtain ⟨vs, vn, vp, cs, Fs, he, hk, h4, h5, h6, h7, rfl⟩ := h.parts
    simp only [Value.agg.injEq, Array.mk.injEq, List.cons.injEq, and_true] at he
    obtain ⟨rfl, rfl, rfl, rfl⟩ := he
    cases hl with
    | cons hlt hs hc' hl =>
      rename_i b2 o2 n m i
      rw [hc] at hc'
      obtain rfl := Option.some.inj hc'
      rcases h6.2 with ⟨he, _⟩ | ⟨g, cap, cur, he, hb, hg, hr⟩
      · cases he
      · simp only [Value.slice.injEq, Option.some.injEq, Addr.mk.injEq, and_true] at he
        obtain ⟨⟨e2, rfl⟩, rfl, rfl⟩ := he
        simp only [Sh.su] at hlt hl
        obtain ⟨cs1, e0, e1, e2', e3, cs2, F1, Fx, F3, rfl, hcl, rfl, g1, g2, g3⟩ := h7.split i hlt
        have hce : w.cell? ⟨b2, 0 + i * 4 + 3, none⟩ = some e3 := by
          subst e2
          rw [h6.cellAt (0 + i * 4 + 3) (by omega)]
          rw [List.getElem?_append_right (by omega)]
          rw [show 0 + i * 4 + 3 - cs1.length = 3 by omega]; rfl
        rcases lead_in p su[i] u b2 (0 + i * 4) b' o' e0 e1 e2' e3 Fx g2 hce hl with ⟨rfl, _, _⟩ | hx
        · simp [blkOf]
        · simp [hx]

theorem swap_at {w4 w6 : World} {B B2 b b' o' : Nat} {T : TypeId} {t u x : Sh} {p : List ByteArray} {c0 c1 c2 c3 d0 d1 d2 d3 : Value} {F F2 : List Nat} (ho : OwnSh w4 B t (.agg #[c0, c1, c2, c3]) F) (hn : F.Nodup) (hblk : w4.heap[b]? = some (.cells #[c0, c1, c2, c3] T (0, 0))) (hbF : b ∉ F)
    (hl : Leads w4 p t b 0 u b' o') (h46 : Below w4.heap.size w4 w6) (hx : OwnSh w6 B2 x (.agg #[d0, d1, d2, d3]) F2) (hn2 : F2.Nodup) (hge : w4.heap.size ≤ B2) (hB : B ≤ B2) :
    (∀ o, w6.frozen? ⟨b', o, none⟩ = false) ∧ (b' = b ∨ b' ∈ F) ∧ ∃ e0 e1 e2 e3 F', (putAt w6 b' o' d0 d1 d2 d3).heap[b]? = some (.cells #[e0, e1, e2, e3] T (0, 0)) ∧ OwnSh (putAt w6 b' o' d0 d1 d2 d3) B (swapR p t x) (.agg #[e0, e1, e2, e3]) F' ∧ F'.Nodup ∧ b ∉ F' := by
  have hb6 := blk_below hblk h46 (Array.getElem?_eq_some_iff.1 hblk).1
  have hbl := (Array.getElem?_eq_some_iff.1 hblk).1
  have ho6 : OwnSh w6 B t (.agg #[c0, c1, c2, c3]) F := OwnSh.move (Nat.le_refl _) _ _ _ (fun g hg => h46.block g (OwnSh.blocks _ _ _ ho g hg).2) ho
  have hl6 := hl.keep (Keeps.of_below h46)
  have hx6 : OwnSh w6 B x (.agg #[d0, d1, d2, d3]) F2 := OwnSh.move hB _ _ _ (fun _ _ => rfl) hx
  have hd : ∀ g ∈ F2, g ∉ F := fun g hg hf => by have a := OwnSh.blocks _ _ _ ho g hf; have b := OwnSh.blocks _ _ _ hx g hg; omega
  have h2b : b ∉ F2 := fun hf => by have := OwnSh.blocks _ _ _ hx b hf; omega
  cases p with
  | nil =>
    cases hl6
    refine ⟨fun o => by simp [World.frozen?, hb6], .inl rfl, d0, d1, d2, d3, F2, putS_blk hb6 _ _ _ _, ?_, hn2, h2b⟩
    exact OwnSh.move (Nat.le_refl _) _ _ _ (fun g hg => putAt_other _ _ _ _ _ _ _ fun e => h2b (e ▸ hg)) hx6
  | cons s p =>
    have hc : w6.cell? ⟨b, 0 + 3, none⟩ = some c3 := (blk4 hb6).2.2.2.1
    obtain ⟨hb', F', h1, h2, h3⟩ := swap_own hx6 hn2 p s t u b 0 b' o' c0 c1 c2 c3 F ho6 hn hd hc hl6
    refine ⟨own_thaw _ _ _ ho6 b' hb', .inr hb', c0, c1, c2, c3, F', ?_, h1, h2, fun hf => (h3 b hf).elim hbF h2b⟩
    rw [putAt_other _ _ _ _ _ _ _ (show b ≠ b' from fun e => hbF (by rw [e]; exact hb'))]; exact hb6
end Go.Proofs.Ythllilkokkijaaa
