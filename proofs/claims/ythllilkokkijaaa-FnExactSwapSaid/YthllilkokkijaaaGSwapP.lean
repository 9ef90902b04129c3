/- A shape with another part at a path: in memory of the call's own. -/
import Derived.Test.YthllilkokkijaaaGPartInW
import Derived.Test.YthllilkokkijaaaGMarkSW
namespace Go.Proofs.Ythllilkokkijaaa
open Go.RowKit

/-- A shape with another part where a path leads. -/
def swapR : List ByteArray → Sh → Sh → Sh
  | [], _, x => x
  | s :: p, .mk k sy na su, x => .mk k sy na (su.set (stepR (.mk k sy na su) s).toNat (swapR p (su[(stepR (.mk k sy na su) s).toNat]?.getD zsh) x))
/-- What Swap answers. -/
def swapA (t : Sh) (p : List ByteArray) (x : Sh) : Sh × Int :=
  if 400 < p.length then (zsh, 2) else if (rightB t && pathOk p && rightB x) = false then (zsh, 1) else match partP p t with
    | none => (zsh, 6)
    | some _ => if rightB (swapR p t x) = false then (zsh, 9) else (swapR p t x, 0)

/-- Four cells from a place on. -/
def putAt (w : World) (b o : Nat) (c0 c1 c2 c3 : Value) : World :=
  (((w.setCell ⟨b, o, none⟩ c0).setCell ⟨b, o + 1, none⟩ c1).setCell ⟨b, o + 2, none⟩ c2).setCell ⟨b, o + 3, none⟩ c3
theorem putAt_other (w : World) (b o : Nat) (c0 c1 c2 c3 : Value) {g : Nat} (h : g ≠ b) : (putAt w b o c0 c1 c2 c3).heap[g]? = w.heap[g]? := by
  unfold putAt
  rw [Below.heap_setCell _ _ _ _ h, Below.heap_setCell _ _ _ _ h, Below.heap_setCell _ _ _ _ h, Below.heap_setCell _ _ _ _ h]
theorem putAt_below {B : Nat} {a w : World} (h : Below B a w) {b : Nat} (hb : B ≤ b) (o : Nat) (c0 c1 c2 c3 : Value) : Below B a (putAt w b o c0 c1 c2 c3) :=
  (((h.setCell (p := ⟨b, o, none⟩) hb _).setCell (p := ⟨b, o + 1, none⟩) hb _).setCell (p := ⟨b, o + 2, none⟩) hb _).setCell (p := ⟨b, o + 3, none⟩) hb _

theorem OwnAll.split {w : World} {base : Nat} : ∀ {l : List Sh} {cs : List Value} {F : List Nat}, OwnAll w base l cs F → ∀ i (h : i < l.length), ∃ cs1 c0 c1 c2 c3 cs2 F1 Fx F2, cs = cs1 ++ c0 :: c1 :: c2 :: c3 :: cs2 ∧ cs1.length = i * 4 ∧ F = F1 ++ (Fx ++ F2) ∧ OwnAll w base (l.take i) cs1 F1 ∧ OwnSh w base l[i] (.agg #[c0, c1, c2, c3]) Fx ∧ OwnAll w base (l.drop (i + 1)) cs2 F2
  | [], _, _, _, _, h => by cases h
  | x :: l, cs, F, h, i, hi => by
    obtain ⟨c0, c1, c2, c3, cs', F1, F2, rfl, h1, h2, rfl⟩ := h.cons
    cases i with
    | zero => exact ⟨[], c0, c1, c2, c3, cs', [], F1, F2, rfl, rfl, rfl, by simp [OwnAll], h1, by simpa using h2⟩
    | succ i =>
      obtain ⟨cs1, d0, d1, d2, d3, cs2, G1, Gx, G2, rfl, e1, rfl, g1, g2, g3⟩ := h2.split i (by simpa using hi)
      refine ⟨c0 :: c1 :: c2 :: c3 :: cs1, d0, d1, d2, d3, cs2, F1 ++ G1, Gx, G2, rfl, by simp only [List.length_cons]; omega, by simp, ?_, g2, by simpa using g3⟩
      simp only [List.take_succ_cons, OwnAll]
      exact ⟨c0, c1, c2, c3, cs1, F1, G1, rfl, h1, g1, rfl⟩
theorem OwnAll.join {w : World} {base : Nat} : ∀ {l1 : List Sh} {cs1 : List Value} {F1 : List Nat} {l2 : List Sh} {cs2 : List Value} {F2 : List Nat}, OwnAll w base l1 cs1 F1 → OwnAll w base l2 cs2 F2 → OwnAll w base (l1 ++ l2) (cs1 ++ cs2) (F1 ++ F2)
  | [], _, _, _, _, _, h1, h2 => by
    simp only [OwnAll] at h1
    obtain ⟨rfl, rfl⟩ := h1
    simpa using h2
  | x :: l, _, _, _, _, _, h1, h2 => by
    obtain ⟨c0, c1, c2, c3, cs', G1, G2, rfl, g1, g2, rfl⟩ := h1.cons
    simp only [List.cons_append, OwnAll]
    exact ⟨c0, c1, c2, c3, _, G1, _, rfl, g1, g2.join h2, by simp⟩

theorem nodup_swap {A X C X' : List Nat} (h : (A ++ (X ++ C)).Nodup) (hx : X'.Nodup) (hs : ∀ g ∈ X', g ∈ X ∨ g ∉ A ++ (X ++ C)) : (A ++ (X' ++ C)).Nodup := by
  simp only [List.nodup_append, List.mem_append] at h hs ⊢
  obtain ⟨h1, ⟨h2, h3, h4⟩, h5⟩ := h
  refine ⟨h1, ⟨hx, h3, fun a ha b hb e => ?_⟩, fun a ha b hb e => ?_⟩
  · subst e
    rcases hs a ha with h | h
    · exact h4 a h a hb rfl
    · exact h (.inr (.inr hb))
  · subst e
    rcases hb with hb | hb
    · rcases hs a hb with h | h
      · exact h5 a ha a (.inl h) rfl
      · exact h (.inl ha)
    · exact h5 a ha a (.inr hb) rfl

set_option maxHeartbeats 400000 in
/-- The part at the end of a path that is not empty, stored anew. -/
theorem swap_own {w : World} {B : Nat} {x : Sh} {d0 d1 d2 d3 : Value} {F2 : List Nat} (hx : OwnSh w B x (.agg #[d0, d1, d2, d3]) F2) (hn2 : F2.Nodup) : ∀ (p : List ByteArray) (s : ByteArray) (t u : Sh) (b o b' o' : Nat) (c0 c1 c2 c3 : Value) (F : List Nat),
    OwnSh w B t (.agg #[c0, c1, c2, c3]) F → F.Nodup → (∀ g ∈ F2, g ∉ F) → w.cell? ⟨b, o + 3, none⟩ = some c3 → Leads w (s :: p) t b o u b' o' →
    b' ∈ F ∧ ∃ F', OwnSh (putAt w b' o' d0 d1 d2 d3) B (swapR (s :: p) t x) (.agg #[c0, c1, c2, c3]) F' ∧ F'.Nodup ∧ ∀ g ∈ F', g ∈ F ∨ g ∈ F2 := by
  intro p
  induction p with
  | nil =>
    intro s t u b o b' o' c0 c1 c2 c3 F h hF hd hc hl
    cases t with | mk k sy na su =>
    obtain ⟨vs, vn, vp, cs, Fs, he, hk, h4, h5, h6, h7, rfl⟩ := h.parts
    simp only [Value.agg.injEq, Array.mk.injEq, List.cons.injEq, and_true] at he
    obtain ⟨rfl, rfl, rfl, rfl⟩ := he
    cases hl with
    | cons hlt hs hc' hl =>
      rename_i b2 o2 n m i
      cases hl
      rw [hc] at hc'
      obtain rfl := Option.some.inj hc'
      rcases h6.2 with ⟨he, _⟩ | ⟨g, cap, cur, he, hb, hg, hr⟩
      · cases he
      · simp only [Value.slice.injEq, Option.some.injEq, Addr.mk.injEq, and_true] at he
        obtain ⟨⟨e2, rfl⟩, rfl, rfl⟩ := he
        subst e2
        simp only [Sh.su] at hlt
        obtain ⟨cs1, e0, e1, e2, e3, cs2, F1, Fx, F3, rfl, hcl, rfl, g1, g2, g3⟩ := h7.split i hlt
        have hgF : b' ∈ blkOf c1 ++ (blkOf c2 ++ (blkOf (.slice (some ⟨b', 0, none⟩) su.length m) ++ (F1 ++ (Fx ++ F3)))) := by simp [blkOf]
        refine ⟨hgF, blkOf c1 ++ (blkOf c2 ++ (blkOf (.slice (some ⟨b', 0, none⟩) su.length m) ++ (F1 ++ (F2 ++ F3)))), ?_, ?_, ?_⟩
        · have ko : ∀ q, q ≠ b' → (putAt w b' (0 + i * 4) d0 d1 d2 d3).heap[q]? = w.heap[q]? := fun q hq => putAt_other _ _ _ _ _ _ _ hq
          have hnF := hF
          simp only [List.nodup_append, List.mem_append, blkOf, List.mem_singleton] at hnF
          simp only [swapR, OwnSh]
          rw [show (stepR (.mk k sy na su) s).toNat = i by rw [hs]; rfl]
          refine ⟨c1, c2, _, cs1 ++ d0 :: d1 :: d2 :: d3 :: cs2, F1 ++ (F2 ++ F3), rfl, hk, strs_move h4 fun q hq => ko q fun e => ?_, strs_move h5 fun q hq => ko q fun e => ?_, ?_, ?_, rfl⟩
          · subst e; exact hnF.2.2 q hq q (.inr (.inl rfl)) rfl
          · subst e; exact hnF.2.1.2.2 q hq q (.inl rfl) rfl
          · have s0 := h6.stored (i * 4) d0
            have s1 := s0.1.stored (i * 4 + 1) d1
            have s2 := s1.1.stored (i * 4 + 2) d2
            have s3 := (s2.1.stored (i * 4 + 3) d3).1
            rw [← hcl] at s3
            unfold putAt
            rw [Nat.zero_add, List.length_set, ← hcl]
            have q0 : (((((cs1 ++ e0 :: e1 :: e2 :: e3 :: cs2).set cs1.length d0).set (cs1.length + 1) d1).set (cs1.length + 2) d2).set (cs1.length + 3) d3) = cs1 ++ d0 :: d1 :: d2 :: d3 :: cs2 := by
              rw [List.set_append_right _ _ (by omega), List.set_append_right _ _ (by omega), List.set_append_right _ _ (by omega), List.set_append_right _ _ (by omega)]
              simp
            rw [q0] at s3
            exact s3
          · rw [List.set_eq_take_append_cons_drop, if_pos hlt]
            refine OwnAll.join (g1.move (Nat.le_refl _) fun q hq => ko q fun e => ?_) ?_
            · subst e; exact hnF.2.1.2.1.2.2 q rfl q (.inl hq) rfl
            · simp only [OwnAll]
              refine ⟨d0, d1, d2, d3, cs2, F2, F3, rfl, OwnSh.move (Nat.le_refl _) _ _ _ (fun q hq => ko q fun e => ?_) hx, g3.move (Nat.le_refl _) fun q hq => ko q fun e => ?_, rfl⟩
              · subst e; exact hd q hq hgF
              · subst e; exact hnF.2.1.2.1.2.2 q rfl q (.inr (.inr hq)) rfl
        · have hF' : ((blkOf c1 ++ (blkOf c2 ++ (blkOf (.slice (some ⟨b', 0, none⟩) su.length m) ++ F1))) ++ (Fx ++ F3)).Nodup := by simpa [List.append_assoc] using hF
          have := nodup_swap hF' hn2 (fun q hq => .inr (by simpa [List.append_assoc] using hd q hq))
          simpa [List.append_assoc] using this
        · intro q hq
          simp only [List.mem_append] at hq ⊢
          rcases hq with h | h | h | h | h | h
          · exact .inl (.inl h)
          · exact .inl (.inr (.inl h))
          · exact .inl (.inr (.inr (.inl h)))
          · exact .inl (.inr (.inr (.inr (.inl h))))
          · exact .inr h
          · exact .inl (.inr (.inr (.inr (.inr (.inr h)))))
  | cons s' p ih =>
    intro s t u b o b' o' c0 c1 c2 c3 F h hF hd hc hl
    cases t with | mk k sy na su =>
    obtain ⟨vs, vn, vp, cs, Fs, he, hk, h4, h5, h6, h7, rfl⟩ := h.parts
    simp only [Value.agg.injEq, Array.mk.injEq, List.cons.injEq, and_true] at he
    obtain ⟨rfl, rfl, rfl, rfl⟩ := he
    cases hl with
    | cons hlt hs hc' hl =>
      rename_i b2 o2 n m i
      rw [hc] at hc'
      obtain rfl := Option.some.inj hc'
      rcases h6.2 with ⟨he, _⟩ | ⟨g, cap, cur, he, hb, hg, hr⟩
      · cases he
      · simp only [Value.slice.injEq, Option.some.injEq, Addr.mk.injEq, and_true] at he
        obtain ⟨⟨e2, rfl⟩, rfl, rfl⟩ := he
        subst e2
        simp only [Sh.su] at hlt hl
        obtain ⟨cs1, e0, e1, e2, e3, cs2, F1, Fx, F3, rfl, hcl, rfl, g1, g2, g3⟩ := h7.split i hlt
        have hFx : Fx.Nodup := by simp only [List.nodup_append] at hF; exact hF.2.1.2.1.2.1.2.1.1
        have hdx : ∀ q ∈ F2, q ∉ Fx := fun q hq hx => hd q hq (by simp [hx])
        have hce : w.cell? ⟨b2, 0 + i * 4 + 3, none⟩ = some e3 := by
          rw [h6.cellAt (0 + i * 4 + 3) (by omega)]
          rw [List.getElem?_append_right (by omega)]
          rw [show 0 + i * 4 + 3 - cs1.length = 3 by omega]; rfl
        obtain ⟨hbx, F', ho', hn', hs'⟩ := ih s' su[i] u b2 (0 + i * 4) b' o' e0 e1 e2 e3 Fx g2 hFx hdx hce hl
        have hnF := hF
        simp only [List.nodup_append, List.mem_append, blkOf, List.mem_singleton] at hnF
        refine ⟨by simp [hbx], blkOf c1 ++ (blkOf c2 ++ (blkOf (.slice (some ⟨b2, 0, none⟩) su.length m) ++ (F1 ++ (F' ++ F3)))), ?_, ?_, ?_⟩
        · have ko : ∀ q, q ≠ b' → (putAt w b' o' d0 d1 d2 d3).heap[q]? = w.heap[q]? := fun q hq => putAt_other _ _ _ _ _ _ _ hq
          simp only [swapR, OwnSh]
          rw [show (stepR (.mk k sy na su) s).toNat = i by rw [hs]; rfl, List.getElem?_eq_getElem hlt, Option.getD_some]
          refine ⟨c1, c2, _, cs1 ++ e0 :: e1 :: e2 :: e3 :: cs2, F1 ++ (F' ++ F3), rfl, hk, strs_move h4 fun q hq => ko q fun e => ?_, strs_move h5 fun q hq => ko q fun e => ?_, ?_, ?_, rfl⟩
          · subst e; exact hnF.2.2 q hq q (.inr (.inr (.inr (.inl hbx)))) rfl
          · subst e; exact hnF.2.1.2.2 q hq q (.inr (.inr (.inl hbx))) rfl
          · rw [List.length_set]
            refine own_block h6 fun q hq => ko q fun e => ?_
            subst e
            simp only [blkOf, List.mem_singleton] at hq
            exact hnF.2.1.2.1.2.2 b2 rfl q (.inr (.inl hbx)) hq.symm
          · rw [List.set_eq_take_append_cons_drop, if_pos hlt]
            refine OwnAll.join (g1.move (Nat.le_refl _) fun q hq => ko q fun e => ?_) ?_
            · subst e; exact hnF.2.1.2.1.2.1.2.2 q hq q (.inl hbx) rfl
            · simp only [OwnAll]
              refine ⟨e0, e1, e2, e3, cs2, F', F3, rfl, ho', g3.move (Nat.le_refl _) fun q hq => ko q fun e => ?_, rfl⟩
              subst e; exact hnF.2.1.2.1.2.1.2.1.2.2 q hbx q hq rfl
        · have hF' : ((blkOf c1 ++ (blkOf c2 ++ (blkOf (.slice (some ⟨b2, 0, none⟩) su.length m) ++ F1))) ++ (Fx ++ F3)).Nodup := by simpa [List.append_assoc] using hF
          have := nodup_swap hF' hn' (fun q hq => (hs' q hq).imp id fun hq => by simpa [List.append_assoc] using hd q hq)
          simpa [List.append_assoc] using this
        · intro q hq
          simp only [List.mem_append] at hq ⊢
          rcases hq with h | h | h | h | h | h
          · exact .inl (.inl h)
          · exact .inl (.inr (.inl h))
          · exact .inl (.inr (.inr (.inl h)))
          · exact .inl (.inr (.inr (.inr (.inl h))))
          · rcases hs' q h with h | h
            · exact .inl (.inr (.inr (.inr (.inr (.inl h)))))
            · exact .inr h
          · exact .inl (.inr (.inr (.inr (.inr (.inr h)))))
end Go.Proofs.Ythllilkokkijaaa
