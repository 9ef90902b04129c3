/- Walk: impl.EditsBack. -/
import Derived.Test.YtfdhmkmeffgkgaaDoorGBwA
import Derived.Test.YtfdhmkmeffgkgaaDoorGRoA
import Derived.Test.YtfdhmkmeffgkgaaDoorGUndA
namespace Go.Proofs.YtfdhmkmeffgkgaaDoor
open Go.RowKit Go.Shelf
attribute [local go_sem] Oper.semAt_some

/-- The Edits from the end. -/
def nthB (l : List Ed) (y : Fin l.length) : Ed := l[l.length - 1 - y.val]'(by have := y.isLt; omega)
theorem nthB_all (l : List Ed) : (List.finRange l.length).map (nthB l) = l.reverse := by
  apply List.ext_getElem
  · simp
  · intro i h1 h2
    simp [nthB, List.getElem_reverse]
/-- What holds between two rounds. -/
def BkJ (w W0 : World) (l : List Ed) (pre : List (Fin l.length)) (W : World) : Prop :=
  (∀ y ∈ pre, edOk (nthB l y) = true) ∧ W.cell? ⟨w.heap.size, 0, none⟩ = some (.slice none 0 0) ∧ W.frozen? ⟨w.heap.size, 0, none⟩ = false ∧
    (∃ p n cap cs F, W.cell? ⟨w.heap.size + 1, 0, none⟩ = some (.slice p n cap) ∧ W.frozen? ⟨w.heap.size + 1, 0, none⟩ = false ∧ RowE W0.heap.size W (pre.map fun y => undoneR (nthB l y)) p n cap cs F)
/-- What holds where a round has left. -/
def BkX (w : World) (l : List Ed) (c : Code) (_pre : List (Fin l.length)) (W : World) : Prop :=
  (c = .ret ∧ W.cell? ⟨w.heap.size, 0, none⟩ = some (.slice none 0 0) ∧ l.all edOk = false)
theorem bkJ_own (w W0 : World) (l : List Ed) (B : Nat) : OwnFrom B (BkJ w W0 l) :=
  Own.from (fun _ _ _ _ hs hg hr => by
    obtain ⟨h1, h2, h3, p, n, cap, cs, F, h4, h5, h6⟩ := hs
    exact ⟨h1, cell_kept h2 hg hr, (frozen_kept h2 hg hr).trans h3, p, n, cap, cs, F, cell_kept h4 hg hr, (frozen_kept h4 hg hr).trans h5, h6.move (grown_blocks h6.cells' hg hr)⟩) B
theorem bkX_own (w : World) (l : List Ed) (c : Code) (B : Nat) : OwnFrom B (BkX w l c) :=
  Own.from (fun _ _ _ _ hs hg hr => ⟨hs.1, cell_kept hs.2.1 hg hr, hs.2.2⟩) B
/-- What the assignment of a round leaves. -/
def BkA (w : World) (a : Option Addr) (l : List Ed) (cap : Nat) (x : Fin l.length) (a' : Act) (W : World) : Prop :=
  ∃ bb s6 s7 s8 s9 s10 s11 s12 p0 m0 p1 n1 m1 p2 n2 m2 p3 n3 m3 q1 i1 j1 q2 i2 j2 q3 i3 j3, a' = { tmps := #[.slice a l.length cap, undef, .pointer (some ⟨w.heap.size, 0, none⟩), .pointer (some ⟨w.heap.size + 1, 0, none⟩), undef, .pointer (some ⟨bb, 0, none⟩), s6, s7, s8, s9, s10, s11, s12, undef, undef, undef, undef, undef, undef, undef, undef, undef], defers := [] } ∧
    W.heap[bb]? = some (.cells #[.int .i64 (nthB l x).kd, .slice p0 (nthB l x).path.length m0, .int .i64 (nthB l x).pl, .string (nthB l x).nm, .string (nthB l x).tn, .int .i64 (nthB l x).sh.kd, .slice p1 n1 m1, .slice p2 n2 m2, .slice p3 n3 m3, .int .i64 (nthB l x).ws.kd, .slice q1 i1 j1, .slice q2 i2 j2, .slice q3 i3 j3] 33 (0, 0)) ∧ w.heap.size + 1 + 1 < bb ∧ IsEd w (nthB l x) (.agg #[.int .i64 (nthB l x).kd, .slice p0 (nthB l x).path.length m0, .int .i64 (nthB l x).pl, .string (nthB l x).nm, .string (nthB l x).tn, .int .i64 (nthB l x).sh.kd, .slice p1 n1 m1, .slice p2 n2 m2, .slice p3 n3 m3, .int .i64 (nthB l x).ws.kd, .slice q1 i1 j1, .slice q2 i2 j2, .slice q3 i3 j3]) ∧ ∃ p n cp, W.cell? ⟨w.heap.size + 1, 0, none⟩ = some (.slice p n cp) ∧ bb ∉ blkOf (.slice p n cp)
theorem bkA_own (w : World) (a : Option Addr) (l : List Ed) (cap : Nat) (x : Fin l.length) (a' : Act) (B : Nat) : OwnFrom B (fun (_ : Unit) W => BkA w a l cap x a' W) :=
  Own.from (fun _ _ _ _ hs hg hr => by
    obtain ⟨bb, s6, s7, s8, s9, s10, s11, s12, p0, m0, p1, n1, m1, p2, n2, m2, p3, n3, m3, q1, i1, j1, q2, i2, j2, q3, i3, j3, h1, h2, h3, h4, p, n, cp, h5, h6⟩ := hs
    exact ⟨bb, s6, s7, s8, s9, s10, s11, s12, p0, m0, p1, n1, m1, p2, n2, m2, p3, n3, m3, q1, i1, j1, q2, i2, j2, q3, i3, j3, h1, (grownBy_keeps_cells hg hr h2 rfl).trans h2, h3, h4, p, n, cp, cell_kept h5 hg hr, h6⟩) B

theorem backs_has {l : List Ed} (h : l.all edOk = false) : backsR l = [] := by
  unfold backsR
  rw [if_neg]
  rintro ⟨_, ha⟩
  rw [h] at ha; cases ha

/-- What a round leaves. -/
theorem bk_step {w W0 W w1 w2 w3 : World} {l : List Ed} {pre : List (Fin l.length)} {x : Fin l.length} {t : Ed} {p p' p0 p1 p2 p3 q1 q2 q3 : Option Addr} {n cap cap2 bb m0 n1 m1 n2 m2 n3 m3 i1 j1 i2 j2 i3 j3 : Nat} {cs : List Value} {F F2 : List Nat} {e0 e2 e5 e8 e11 e14 e17 : Option Addr} {e1 e3 e4 e6 e7 e9 e10 e12 e13 e15 e16 e18 e19 : Nat}
    (ht : nthB l x = t) (hok : ∀ y ∈ pre, edOk (nthB l y) = true) (hk : edOk t = true) (hz : W0.heap.size = w.heap.size + 1 + 1 + 1) (hB : Below w.heap.size w W) (hB0 : Below w.heap.size W0 W) (hX1 : Below W.heap.size W w1) (hX : Below w1.heap.size w1 w2)
    (hcr : w1.cell? ⟨w.heap.size, 0, none⟩ = some (.slice none 0 0) ∧ w1.frozen? ⟨w.heap.size, 0, none⟩ = false) (hco : w1.cell? ⟨w.heap.size + 1, 0, none⟩ = some (.slice p n cap) ∧ w1.frozen? ⟨w.heap.size + 1, 0, none⟩ = false)
    (hR : RowE W0.heap.size w1 (pre.map fun y => undoneR (nthB l y)) p n cap cs F) (ho : OwnEd w2 w1.drew.heap.size (undoneR t) (.agg #[.int .i64 (undoneR t).kd, .slice e0 (undoneR t).path.length e1, .int .i64 (undoneR t).pl, .string (undoneR t).nm, .string (undoneR t).tn, .int .i64 (undoneR t).sh.kd, .slice e2 e3 e4, .slice e5 e6 e7, .slice e8 e9 e10, .int .i64 (undoneR t).ws.kd, .slice e11 e12 e13, .slice e14 e15 e16, .slice e17 e18 e19]) F2) (hn : F2.Nodup) (hnx : bb ∉ blkOf (.slice p n cap)) (hbb : w.heap.size + 1 + 1 < bb) (hA : w1.heap[bb]? = some (.cells #[.int .i64 t.kd, .slice p0 t.path.length m0, .int .i64 t.pl, .string t.nm, .string t.tn, .int .i64 t.sh.kd, .slice p1 n1 m1, .slice p2 n2 m2, .slice p3 n3 m3, .int .i64 t.ws.kd, .slice q1 i1 j1, .slice q2 i2 j2, .slice q3 i3 j3] 33 (0, 0)))
    (hv : w3.ownsRow W0.heap.size 33 13 (.slice p' (n + 1) cap2) (n + 1) (cs ++ [.int .i64 (undoneR t).kd, .slice e0 (undoneR t).path.length e1, .int .i64 (undoneR t).pl, .string (undoneR t).nm, .string (undoneR t).tn, .int .i64 (undoneR t).sh.kd, .slice e2 e3 e4, .slice e5 e6 e7, .slice e8 e9 e10, .int .i64 (undoneR t).ws.kd, .slice e11 e12 e13, .slice e14 e15 e16, .slice e17 e18 e19])) (hy : Only (blkOf (.slice p n cap)) w2 w3) (hq : ∀ q ∈ blkOf (.slice p' (n + 1) cap2), q ∈ blkOf (.slice p n cap) ∨ w2.heap.size ≤ q) :
    (w3.cell? ⟨w.heap.size + 1, 0, none⟩ = some (.slice p n cap) ∧ w3.frozen? ⟨w.heap.size + 1, 0, none⟩ = false) ∧ w3.heap[bb]? = some (.cells #[.int .i64 t.kd, .slice p0 t.path.length m0, .int .i64 t.pl, .string t.nm, .string t.tn, .int .i64 t.sh.kd, .slice p1 n1 m1, .slice p2 n2 m2, .slice p3 n3 m3, .int .i64 t.ws.kd, .slice q1 i1 j1, .slice q2 i2 j2, .slice q3 i3 j3] 33 (0, 0)) ∧ (w3.setCell ⟨w.heap.size + 1, 0, none⟩ (.slice p' (n + 1) cap2)).heap[bb]? = some (.cells #[.int .i64 t.kd, .slice p0 t.path.length m0, .int .i64 t.pl, .string t.nm, .string t.tn, .int .i64 t.sh.kd, .slice p1 n1 m1, .slice p2 n2 m2, .slice p3 n3 m3, .int .i64 t.ws.kd, .slice q1 i1 j1, .slice q2 i2 j2, .slice q3 i3 j3] 33 (0, 0)) ∧
      KeepsOthers W (w3.setCell ⟨w.heap.size + 1, 0, none⟩ (.slice p' (n + 1) cap2)) ∧ KpB w.heap.size (w.heap.size + 1 + 1) W (w3.setCell ⟨w.heap.size + 1, 0, none⟩ (.slice p' (n + 1) cap2)) ∧
      (BkJ w W0 l (pre ++ [x]) (w3.setCell ⟨w.heap.size + 1, 0, none⟩ (.slice p' (n + 1) cap2)) ∧ Below w.heap.size w (w3.setCell ⟨w.heap.size + 1, 0, none⟩ (.slice p' (n + 1) cap2))) ∧ Below w.heap.size W0 (w3.setCell ⟨w.heap.size + 1, 0, none⟩ (.slice p' (n + 1) cap2)) := by
  have zW := hB0.size
  have zw := hX1.size
  have z2 := hX.size
  have hR2 := hR.below hX
  have hb3 : Below W0.heap.size w1 w3 := (hX.mono (by omega)).trans (hy.below (by omega) fun g hg => (hR2.lt g (List.mem_append_left _ hg)).1)
  have hbW : Below W0.heap.size W w3 := (hX1.mono (by omega)).trans hb3
  have hz1 : bb < w1.heap.size := (Array.getElem?_eq_some_iff.1 hA).1
  have hA3 : w3.heap[bb]? = some (.cells #[.int .i64 t.kd, .slice p0 t.path.length m0, .int .i64 t.pl, .string t.nm, .string t.tn, .int .i64 t.sh.kd, .slice p1 n1 m1, .slice p2 n2 m2, .slice p3 n3 m3, .int .i64 t.ws.kd, .slice q1 i1 j1, .slice q2 i2 j2, .slice q3 i3 j3] 33 (0, 0)) := by
    rw [hy.block bb (by omega) hnx, hX.block bb hz1]; exact hA
  have co3 : w3.cell? ⟨w.heap.size + 1, 0, none⟩ = some (.slice p n cap) := by rw [hb3.cell (p := ⟨w.heap.size + 1, 0, none⟩) (by show w.heap.size + 1 < _; omega)]; exact hco.1
  have fo3 : w3.frozen? ⟨w.heap.size + 1, 0, none⟩ = false := by rw [hb3.frozen (p := ⟨w.heap.size + 1, 0, none⟩) (by show w.heap.size + 1 < _; omega)]; exact hco.2
  have cr3 : w3.cell? ⟨w.heap.size, 0, none⟩ = some (.slice none 0 0) := by rw [hb3.cell (p := ⟨w.heap.size, 0, none⟩) (by show w.heap.size < _; omega)]; exact hcr.1
  have fr3 : w3.frozen? ⟨w.heap.size, 0, none⟩ = false := by rw [hb3.frozen (p := ⟨w.heap.size, 0, none⟩) (by show w.heap.size < _; omega)]; exact hcr.2
  have hd1 : w1.drew.heap.size = w1.heap.size := rfl
  have hd : ∀ g ∈ F2, g ∉ blkOf (.slice p n cap) ∧ g ∉ F := fun g hg => by
    have q := (OwnEd.blocks ho g hg).1
    exact ⟨fun hm => by have := (hR.lt g (List.mem_append_left _ hm)).2; omega, fun hm => by have := (hR.lt g (List.mem_append_right _ hm)).2; omega⟩
  have hP := rowe_push hR2 ho hn (by omega) hd hv hy hq
  have hP' := hP.move (w' := w3.setCell ⟨w.heap.size + 1, 0, none⟩ (.slice p' (n + 1) cap2)) fun g hg => Below.heap_setCell _ _ _ _ (show g ≠ w.heap.size + 1 by have := (hP.lt g hg).1; omega)
  have hbwe := (hbW.mono (show w.heap.size ≤ W0.heap.size by omega)).setCell (p := ⟨w.heap.size + 1, 0, none⟩) (show w.heap.size ≤ w.heap.size + 1 by omega) (.slice p' (n + 1) cap2)
  refine ⟨⟨co3, fo3⟩, hA3, blk_other hA3 (by omega) _, (others_below hX1).trans ((others_below hX).trans ((others_only hy (own_cells hR2.2.1)).trans (KeepsOthers.setCell _ _ _))), ⟨hbwe, ?_⟩, ⟨⟨fun y hm => ?_, ?_, ?_, p', n + 1, cap2, cs ++ [.int .i64 (undoneR t).kd, .slice e0 (undoneR t).path.length e1, .int .i64 (undoneR t).pl, .string (undoneR t).nm, .string (undoneR t).tn, .int .i64 (undoneR t).sh.kd, .slice e2 e3 e4, .slice e5 e6 e7, .slice e8 e9 e10, .int .i64 (undoneR t).ws.kd, .slice e11 e12 e13, .slice e14 e15 e16, .slice e17 e18 e19], F ++ F2, World.cell?_setCell_same' _ _ _ (by rw [co3]; rfl), ?_, ?_⟩, hB.trans hbwe⟩, hB0.trans hbwe⟩
  · rw [Below.heap_setCell _ _ _ _ (show w.heap.size + 1 + 1 ≠ w.heap.size + 1 by omega), hbW.block _ (by omega)]
  · rcases List.mem_append.1 hm with hm | hm
    · exact hok y hm
    · simp at hm; subst hm; rw [ht]; exact hk
  · rw [World.cell?_setCell_far _ _ _ _ (show w.heap.size + 1 ≠ w.heap.size by omega)]; exact cr3
  · rw [← fr3]; exact World.frozen?_of_block (Below.heap_setCell _ _ _ _ (show w.heap.size ≠ w.heap.size + 1 by omega))
  · rw [World.frozen?_setCell]; exact fo3
  · rw [List.map_append]
    simp only [List.map_cons, List.map_nil]
    rw [ht]
    exact hP'

/-- Out of the function. -/
theorem bk_out {w W w' : World} {base : Nat} {l : List Ed} {p : Option Addr} {n cap : Nat} {cs : List Value} {F : List Nat} (h : RowE base W l p n cap cs F) (e : ∀ g ∈ blkOf (.slice p n cap) ++ F, w'.heap[g]? = W.heap[g]?) (hb : w.heap.size ≤ base) (hB : Below w.heap.size w w') : EdsInv w w' l p n cap cs F := by
  obtain ⟨h0, h1, h2, h3⟩ := h.move e
  exact ⟨h0, own_mono h1 hb, h2.move hb fun _ _ => rfl, h3, hB⟩
theorem backs_all {l : List Ed} (hl : l.length ≤ 400) (h : ∀ y ∈ List.finRange l.length, edOk (nthB l y) = true) : backsR l = (List.finRange l.length).map fun y => undoneR (nthB l y) := by
  have e : (List.finRange l.length).map (fun y => undoneR (nthB l y)) = ((List.finRange l.length).map (nthB l)).map undoneR := by simp
  have ha : l.all edOk = true := by
    rw [List.all_eq_true]
    intro x hx
    have hx' : x ∈ (List.finRange l.length).map (nthB l) := by rw [nthB_all]; simpa using hx
    obtain ⟨y, hy, rfl⟩ := List.mem_map.1 hx'
    exact h y hy
  rw [e, nthB_all]
  unfold backsR
  rw [if_pos ⟨hl, ha⟩, List.map_reverse]

theorem eds_fns {w : World} {b off : Nat} {l : List Ed} (h : EdAt w b off l) : ∃ C : Nat → Nat → Value, ∀ i (hi : i < l.length), (w.cell? ⟨b, off + i * 13, none⟩ = some (C i 0) ∧ w.cell? ⟨b, off + i * 13 + 1, none⟩ = some (C i 1) ∧ w.cell? ⟨b, off + i * 13 + 2, none⟩ = some (C i 2) ∧ w.cell? ⟨b, off + i * 13 + 3, none⟩ = some (C i 3) ∧ w.cell? ⟨b, off + i * 13 + 4, none⟩ = some (C i 4) ∧ w.cell? ⟨b, off + i * 13 + 5, none⟩ = some (C i 5) ∧ w.cell? ⟨b, off + i * 13 + 6, none⟩ = some (C i 6) ∧ w.cell? ⟨b, off + i * 13 + 7, none⟩ = some (C i 7) ∧ w.cell? ⟨b, off + i * 13 + 8, none⟩ = some (C i 8) ∧ w.cell? ⟨b, off + i * 13 + 9, none⟩ = some (C i 9) ∧ w.cell? ⟨b, off + i * 13 + 10, none⟩ = some (C i 10) ∧ w.cell? ⟨b, off + i * 13 + 11, none⟩ = some (C i 11) ∧ w.cell? ⟨b, off + i * 13 + 12, none⟩ = some (C i 12)) ∧ IsEd w l[i] (.agg #[C i 0, C i 1, C i 2, C i 3, C i 4, C i 5, C i 6, C i 7, C i 8, C i 9, C i 10, C i 11, C i 12]) := by
  have hT : ∀ i, i < l.length → ∃ c : Nat → Value, ∀ hi : i < l.length, (w.cell? ⟨b, off + i * 13, none⟩ = some (c 0) ∧ w.cell? ⟨b, off + i * 13 + 1, none⟩ = some (c 1) ∧ w.cell? ⟨b, off + i * 13 + 2, none⟩ = some (c 2) ∧ w.cell? ⟨b, off + i * 13 + 3, none⟩ = some (c 3) ∧ w.cell? ⟨b, off + i * 13 + 4, none⟩ = some (c 4) ∧ w.cell? ⟨b, off + i * 13 + 5, none⟩ = some (c 5) ∧ w.cell? ⟨b, off + i * 13 + 6, none⟩ = some (c 6) ∧ w.cell? ⟨b, off + i * 13 + 7, none⟩ = some (c 7) ∧ w.cell? ⟨b, off + i * 13 + 8, none⟩ = some (c 8) ∧ w.cell? ⟨b, off + i * 13 + 9, none⟩ = some (c 9) ∧ w.cell? ⟨b, off + i * 13 + 10, none⟩ = some (c 10) ∧ w.cell? ⟨b, off + i * 13 + 11, none⟩ = some (c 11) ∧ w.cell? ⟨b, off + i * 13 + 12, none⟩ = some (c 12)) ∧ IsEd w l[i] (.agg #[c 0, c 1, c 2, c 3, c 4, c 5, c 6, c 7, c 8, c 9, c 10, c 11, c 12]) := fun i hi => by
    obtain ⟨c0, c1, c2, c3, c4, c5, c6, c7, c8, c9, c10, c11, c12, g0, g1, g2, g3, g4, g5, g6, g7, g8, g9, g10, g11, g12, g13⟩ := h i hi
    exact ⟨fun k => [c0, c1, c2, c3, c4, c5, c6, c7, c8, c9, c10, c11, c12].getD k c0, fun _ => ⟨⟨g0, g1, g2, g3, g4, g5, g6, g7, g8, g9, g10, g11, g12⟩, g13⟩⟩
  have : Inhabited Value := ⟨.int .i64 0⟩
  obtain ⟨C, hC⟩ := Go.Deep.choose_lt hT
  exact ⟨C, fun i hi => hC i hi hi⟩

set_option maxRecDepth 100000 in
set_option maxHeartbeats 4000000 in
theorem implBacks_is (l : List Ed) (r : List Ed) (hr : backsR l = r) (v : Value) (w : World) (h : IsEds w v l) (hek : EkAt w) :
    Calls Tryd.prog 16 #[v] w (EdsPost r w) := by
  obtain ⟨a, cap, rfl, h3, h4, h6⟩ := h
  by_cases hlen : 400 < l.length
  · have hlen' : (400 : Int) < l.length := by omega
    have HE : Hid (r = []) := by show _ = _; rw [← hr]; unfold backsR; rw [if_neg fun h => by omega]
    clear hr h6 hlen
    go_enter Tryd.func16, Tryd.ntmps16
    go_wp2_with fail
    refine bodyPost_ret (v := .slice none 0 0) (by simp [results, Tryd.results16, go_sem, *]) rfl ?_
    refine ⟨none, 0, 0, [], [], rfl, ?_⟩
    rw [HE.out]
    exact ⟨rfl, World.ownsRow_nil _ _ _ _, by simp [OwnAllE], by simp [blkOf], below_alloc w _⟩
  have hl' : (l.length : Int) ≤ 400 := by omega
  obtain ⟨b, off, C, ha, hC⟩ : ∃ b off, ∃ C : Nat → Nat → Value, (0 < l.length → a = some ⟨b, off, none⟩) ∧ ∀ i (hi : i < l.length), (w.cell? ⟨b, off + i * 13, none⟩ = some (C i 0) ∧ w.cell? ⟨b, off + i * 13 + 1, none⟩ = some (C i 1) ∧ w.cell? ⟨b, off + i * 13 + 2, none⟩ = some (C i 2) ∧ w.cell? ⟨b, off + i * 13 + 3, none⟩ = some (C i 3) ∧ w.cell? ⟨b, off + i * 13 + 4, none⟩ = some (C i 4) ∧ w.cell? ⟨b, off + i * 13 + 5, none⟩ = some (C i 5) ∧ w.cell? ⟨b, off + i * 13 + 6, none⟩ = some (C i 6) ∧ w.cell? ⟨b, off + i * 13 + 7, none⟩ = some (C i 7) ∧ w.cell? ⟨b, off + i * 13 + 8, none⟩ = some (C i 8) ∧ w.cell? ⟨b, off + i * 13 + 9, none⟩ = some (C i 9) ∧ w.cell? ⟨b, off + i * 13 + 10, none⟩ = some (C i 10) ∧ w.cell? ⟨b, off + i * 13 + 11, none⟩ = some (C i 11) ∧ w.cell? ⟨b, off + i * 13 + 12, none⟩ = some (C i 12)) ∧ IsEd w l[i] (.agg #[C i 0, C i 1, C i 2, C i 3, C i 4, C i 5, C i 6, C i 7, C i 8, C i 9, C i 10, C i 11, C i 12]) := by
    rcases h6 with rfl | ⟨b, off, rfl, hAt⟩
    · exact ⟨0, 0, fun _ _ => .int .i64 0, fun h => absurd h (by simp), fun i hi => absurd hi (by simp)⟩
    · obtain ⟨C, hC⟩ := eds_fns hAt
      exact ⟨b, off, C, fun _ => rfl, hC⟩
  obtain ⟨W0, hW⟩ : ∃ W0, W0 = ((w.alloc (.cells #[.slice none 0 0] 41)).alloc (.cells #[.slice none 0 0] 41)).alloc (.cells #[.slice a l.length cap] 41) := ⟨_, rfl⟩
  obtain ⟨N1, N2, N3⟩ := three_new w (.cells #[.slice none 0 0] 41) (.cells #[.slice none 0 0] 41) (.cells #[.slice a l.length cap] 41)
  have hbW : Below w.heap.size w W0 := by rw [hW]; exact ((below_alloc w _).alloc (by simp) _).alloc (by simp; omega) _
  have hz : W0.heap.size = w.heap.size + 1 + 1 + 1 := by rw [hW]; simp
  rw [← hW] at N1 N2 N3
  have HW := Lib.hid hW
  have HN1 := Lib.hid N1
  have HN2 := Lib.hid N2
  have HN3 := Lib.hid N3
  have HZ := Lib.hid hz
  have HBW := Lib.hid hbW
  have HC := Lib.hid hC
  have HA := Lib.hid ha
  have HR := Lib.hid hr
  have EK := Lib.hid hek
  have HL := Lib.hid hlen
  clear hW N1 N2 N3 hz hbW hC ha hr hek h6 hlen h3 h4
  refine (callsIn_wide (n := 10)).1 ?_
  refine callsIn_of_wp_marks Tryd.func16 rfl trivial ?_ rfl
  simp only [Tryd.ntmps16, List.size_toArray, List.length_cons, List.length_nil, Nat.reduceAdd, Nat.reduceSub, Array.replicate_succ, Array.replicate_zero, List.push_toArray, List.append_toArray, List.nil_append, List.cons_append]
  gi_wp2
  refine ⟨trivial, ?_⟩
  refine (callsIn_wide.2 (backward_any _ _ _ _)).mono ?_
  rintro e w' ⟨rfl, rfl⟩
  rw [← HW.out]
  gi_wp2
  refine wpIn_rangeFunc_ownH (F := Fence.wide) rfl (by decide) (gf := 60) (lb := #[.pointer (some ⟨w.heap.size + 1 + 1, 0, none⟩)]) rfl trivial (enters_of Tryd.func60 (by kernel_rfl) rfl)
    (bw_stops 9 (by decide) (w.heap.size + 1 + 1) w.heap.size l.length cap b off a HA.out (fun i => C i 0) (fun i => C i 1) (fun i => C i 2) (fun i => C i 3) (fun i => C i 4) (fun i => C i 5) (fun i => C i 6) (fun i => C i 7) (fun i => C i 8) (fun i => C i 9) (fun i => C i 10) (fun i => C i 11) (fun i => C i 12) (by omega) W0 (by rw [HZ.out]; omega) HBW.out.size HN3.out (fun W' hb i hi => by
      have hk := Keeps.of_below (HBW.out.trans hb)
      obtain ⟨g0, g1, g2, g3, g4, g5, g6, g7, g8, g9, g10, g11, g12⟩ := (HC.out i hi).1
      exact ⟨hk _ _ _ g0, hk _ _ _ g1, hk _ _ _ g2, hk _ _ _ g3, hk _ _ _ g4, hk _ _ _ g5, hk _ _ _ g6, hk _ _ _ g7, hk _ _ _ g8, hk _ _ _ g9, hk _ _ _ g10, hk _ _ _ g11, hk _ _ _ g12⟩)) KpB.trans
    (fun W l o o' h1 h2 h3 h4 => ⟨belowK_b (w := W0) HBW.out.size W l o o' h1 h2 h3 h4, World.putObj_heap_other (by have := HZ.out; omega)⟩) (Below.refl _ _) (fun _ => rfl)
    (fun pre W => (BkJ w W0 l pre W ∧ Below w.heap.size w W) ∧ Below w.heap.size W0 W) (fun c pre W => (BkX w l c pre W ∧ Below w.heap.size w W) ∧ Below w.heap.size W0 W)
    (OwnFrom.and (OwnFrom.and (bkJ_own _ _ _ _) (ownFrom_below (Nat.le_refl _) HBW.out.size)) (ownFrom_below HBW.out.size HBW.out.size))
    (fun c => OwnFrom.and (OwnFrom.and (bkX_own _ _ _ _) (ownFrom_below (Nat.le_refl _) HBW.out.size)) (ownFrom_below HBW.out.size HBW.out.size))
    ⟨⟨⟨by simp, by simp [World.cell?, HN1.out], by simp [World.frozen?, HN1.out], none, 0, 0, [], [], by simp [World.cell?, HN2.out], by simp [World.frozen?, HN2.out], rowe_nil _ _⟩, HBW.out⟩, Below.refl _ _⟩
    (BkA w a l cap) (fun x a' => bkA_own _ _ _ _ _ _ _) ?assign ?body ?done ?stop
  case assign =>
    rintro l' pre x W K ⟨⟨⟨hok, hcr, hfr, p, n, cap', cs, F, hco, hfo, hR⟩, hB⟩, hB0⟩ hK
    dsimp only
    have hjl : l.length - 1 - x.val < l.length := by have := x.isLt; omega
    obtain ⟨_, hIs⟩ := HC.out _ hjl
    obtain ⟨j, hj⟩ : ∃ j, l.length - 1 - x.val = j := ⟨_, rfl⟩
    have ht : l[l.length - 1 - x.val] = nthB l x := rfl
    rw [ht] at hIs
    obtain ⟨t, ht⟩ : ∃ t, nthB l x = t := ⟨_, rfl⟩
    rw [ht] at hIs
    rw [hj] at hIs hjl
    simp only [hj]
    generalize C j 0 = d0 at hIs ⊢
    generalize C j 1 = d1 at hIs ⊢
    generalize C j 2 = d2 at hIs ⊢
    generalize C j 3 = d3 at hIs ⊢
    generalize C j 4 = d4 at hIs ⊢
    generalize C j 5 = d5 at hIs ⊢
    generalize C j 6 = d6 at hIs ⊢
    generalize C j 7 = d7 at hIs ⊢
    generalize C j 8 = d8 at hIs ⊢
    generalize C j 9 = d9 at hIs ⊢
    generalize C j 10 = d10 at hIs ⊢
    generalize C j 11 = d11 at hIs ⊢
    generalize C j 12 = d12 at hIs ⊢
    have HI0 := Lib.hid hIs
    obtain ⟨p0, m0, p1, n1, m1, p2, n2, m2, p3, n3, m3, q1, i1, j1, q2, i2, j2, q3, i3, j3, he, _, _, _, _, _, _, _⟩ := hIs
    simp only [Value.agg.injEq, Array.mk.injEq, List.cons.injEq, and_true] at he
    obtain ⟨rfl, rfl, rfl, rfl, rfl, rfl, rfl, rfl, rfl, rfl, rfl, rfl, rfl⟩ := he
    have y0 := Go.Deep.blk_alloc_new W (.cells #[.int .i64 0, .slice none 0 0, .int .i64 0, .string ⟨#[]⟩, .string ⟨#[]⟩, .int .i64 0, .slice none 0 0, .slice none 0 0, .slice none 0 0, .int .i64 0, .slice none 0 0, .slice none 0 0, .slice none 0 0] 33)
    gi_wp2
    have zb : w.heap.size + 1 + 1 < W.heap.size := by have h1 := hB0.size; have h2 := HZ.out; omega
    have hba := below_alloc W (.cells #[.int .i64 t.kd, .slice p0 t.path.length m0, .int .i64 t.pl, .string t.nm, .string t.tn, .int .i64 t.sh.kd, .slice p1 n1 m1, .slice p2 n2 m2, .slice p3 n3 m3, .int .i64 t.ws.kd, .slice q1 i1 j1, .slice q2 i2 j2, .slice q3 i3 j3] 33)
    subst ht
    refine hK _ _ ((KeepsOthers.alloc _ _).from _) ⟨hba.mono hB.size, Below.heap_alloc _ _ _ zb⟩ ⟨⟨⟨hok, (Keeps.of_below hba) _ _ _ hcr, ?_, p, n, cap', cs, F, (Keeps.of_below hba) _ _ _ hco, ?_, hR.below hba⟩, hB.alloc hB.size _⟩, hB0.alloc hB.size _⟩ ⟨W.heap.size, _, _, _, _, _, _, _, p0, m0, p1, n1, m1, p2, n2, m2, p3, n3, m3, q1, i1, j1, q2, i2, j2, q3, i3, j3, rfl, Go.Deep.blk_alloc_new _ _, zb, HI0.out, p, n, cap', (Keeps.of_below hba) _ _ _ hco, fun hm => by have := (blkOf_own hR.2.1 _ hm).2; omega⟩
    · rw [hba.frozen (p := ⟨w.heap.size, 0, none⟩) (by show w.heap.size < _; omega)]; exact hfr
    · rw [hba.frozen (p := ⟨w.heap.size + 1, 0, none⟩) (by show w.heap.size + 1 < _; omega)]; exact hfo
  case body =>
    rintro l' pre x a' W _ _ ⟨⟨⟨hok, hcr, hfr, p, n, cap', cs, F, hco, hfo, hR⟩, hB⟩, hB0⟩ ⟨bb, s6, s7, s8, s9, s10, s11, s12, p0, m0, p1, n1, m1, p2, n2, m2, p3, n3, m3, q1, i1, j1, q2, i2, j2, q3, i3, j3, rfl, hx, hbb, hIs, px, nx, cx, hcx, hnx⟩ hpl
    obtain ⟨rfl, rfl, rfl⟩ : p = px ∧ n = nx ∧ cap' = cx := by
      rw [hco] at hcx
      simp only [Option.some.injEq, Value.slice.injEq] at hcx
      exact hcx
    have HNX := Lib.hid hnx
    obtain ⟨t, ht⟩ : ∃ t, nthB l x = t := ⟨_, rfl⟩
    rw [ht] at hx hIs
    have zb : w.heap.size + 1 + 1 < W.heap.size := by have h1 := hB0.size; have h2 := HZ.out; omega
    have A2 := Lib.hid hx
    have HI := Lib.hid hIs
    have HT := Lib.hid ht
    have HOK := Lib.hid hok
    have HCR := Lib.hid (And.intro hcr hfr)
    have HCO := Lib.hid (And.intro hco hfo)
    have HRW := Lib.hid hR
    have HB := Lib.hid hB
    have HB0 := Lib.hid hB0
    have ZB := Lib.hid zb
    have HBB := Lib.hid hbb
    have HPL := Lib.hid hpl
    obtain ⟨ok, hok2⟩ : ∃ ok, edOk t = ok := ⟨_, rfl⟩
    have OK := Lib.hid hok2
    clear hcx hnx hx hIs ht hok hcr hfr hco hfo hR hB hB0 hok2 zb hbb hpl
    have a0 := cel A2.out 0 rfl
    have a1 := cel A2.out 1 rfl
    have a2 := cel A2.out 2 rfl
    have a3 := cel A2.out 3 rfl
    have a4 := cel A2.out 4 rfl
    have a5 := cel A2.out 5 rfl
    have a6 := cel A2.out 6 rfl
    have a7 := cel A2.out 7 rfl
    have a8 := cel A2.out 8 rfl
    have a9 := cel A2.out 9 rfl
    have a10 := cel A2.out 10 rfl
    have a11 := cel A2.out 11 rfl
    have a12 := cel A2.out 12 rfl
    gi_wp2
    refine ⟨trivial, ?_⟩
    refine (CallsIn.inRound l' (callsIn_wide.2 (implEd_is t ok OK.out _ _ (HI.out.keep (Keeps.of_below HB.out)) (EK.out.keep (Keeps.of_below HB.out))))).mono ?_
    rintro e w1 ⟨rfl, hb1⟩
    have X1 := Lib.hid hb1
    have B1 := Lib.hid (HB.out.trans (hb1.mono HB.out.size))
    have B01 := Lib.hid (HB0.out.trans (hb1.mono (Nat.le_trans HBW.out.size HB0.out.size)))
    have R1 := Lib.hid (HRW.out.below hb1)
    have A3 := Lib.hid (blk_below A2.out hb1 (Array.getElem?_eq_some_iff.1 A2.out).1)
    have CR1 : Hid (w1.cell? ⟨w.heap.size, 0, none⟩ = some (.slice none 0 0) ∧ w1.frozen? ⟨w.heap.size, 0, none⟩ = false) := ⟨(Keeps.of_below hb1) _ _ _ HCR.out.1, by rw [hb1.frozen (p := ⟨w.heap.size, 0, none⟩) (by show w.heap.size < _; have := ZB.out; omega)]; exact HCR.out.2⟩
    have CO1 : Hid (w1.cell? ⟨w.heap.size + 1, 0, none⟩ = some (.slice p n cap') ∧ w1.frozen? ⟨w.heap.size + 1, 0, none⟩ = false) := ⟨(Keeps.of_below hb1) _ _ _ HCO.out.1, by rw [hb1.frozen (p := ⟨w.heap.size + 1, 0, none⟩) (by show w.heap.size + 1 < _; have := ZB.out; omega)]; exact HCO.out.2⟩
    clear hb1 a0 a1 a2 a3 a4 a5 a6 a7 a8 a9 a10 a11 a12
    cases ok
    · have HAF : Hid (l.all edOk = false) := by
        show _ = _
        rw [Bool.eq_false_iff]
        intro ha
        have := List.all_eq_true.1 ha (nthB l x) (List.getElem_mem _)
        rw [HT.out, OK.out] at this; cases this
      obtain ⟨k0, z0⟩ := CR1.out
      gi_wp2
      exact ⟨((others_below X1.out).trans (KeepsOthers.setCell _ _ _)).from _, ⟨⟨rfl, World.cell?_setCell_same' _ _ _ (by rw [CR1.out.1]; rfl), HAF.out⟩, B1.out.setCell (p := ⟨w.heap.size, 0, none⟩) (Nat.le_refl _) _⟩, B01.out.setCell (p := ⟨w.heap.size, 0, none⟩) (Nat.le_refl _) _⟩
    · gi_wp2
      have HSK : Hid (∀ w', Below w1.heap.size w1 w' → (w'.cell? ⟨bb, 0, none⟩ = some (.int .i64 t.kd) ∧ w'.cell? ⟨bb, 1, none⟩ = some (.slice p0 t.path.length m0) ∧ w'.cell? ⟨bb, 2, none⟩ = some (.int .i64 t.pl) ∧ w'.cell? ⟨bb, 3, none⟩ = some (.string t.nm) ∧ w'.cell? ⟨bb, 4, none⟩ = some (.string t.tn) ∧ w'.cell? ⟨bb, 5, none⟩ = some (.int .i64 t.sh.kd) ∧ w'.cell? ⟨bb, 6, none⟩ = some (.slice p1 n1 m1) ∧ w'.cell? ⟨bb, 7, none⟩ = some (.slice p2 n2 m2) ∧ w'.cell? ⟨bb, 8, none⟩ = some (.slice p3 n3 m3) ∧ w'.cell? ⟨bb, 9, none⟩ = some (.int .i64 t.ws.kd) ∧ w'.cell? ⟨bb, 10, none⟩ = some (.slice q1 i1 j1) ∧ w'.cell? ⟨bb, 11, none⟩ = some (.slice q2 i2 j2) ∧ w'.cell? ⟨bb, 12, none⟩ = some (.slice q3 i3 j3))) := fun w' hb => by
        have hk := Keeps.of_below hb
        exact ⟨hk _ _ _ (cel A3.out 0 rfl), hk _ _ _ (cel A3.out 1 rfl), hk _ _ _ (cel A3.out 2 rfl), hk _ _ _ (cel A3.out 3 rfl), hk _ _ _ (cel A3.out 4 rfl), hk _ _ _ (cel A3.out 5 rfl), hk _ _ _ (cel A3.out 6 rfl), hk _ _ _ (cel A3.out 7 rfl), hk _ _ _ (cel A3.out 8 rfl), hk _ _ _ (cel A3.out 9 rfl), hk _ _ _ (cel A3.out 10 rfl), hk _ _ _ (cel A3.out 11 rfl), hk _ _ _ (cel A3.out 12 rfl)⟩
      have HUC := Lib.hid (und_cut t _ w1.drew OK.out (HI.out.keep (Keeps.of_below B1.out.drew)) (EK.out.keep (Keeps.of_below B1.out.drew)))
      obtain ⟨k0, z0⟩ := CO1.out
      refine round_held (S := fun w' => w'.cell? ⟨bb, 0, none⟩ = some (.int .i64 t.kd) ∧ w'.cell? ⟨bb, 1, none⟩ = some (.slice p0 t.path.length m0) ∧ w'.cell? ⟨bb, 2, none⟩ = some (.int .i64 t.pl) ∧ w'.cell? ⟨bb, 3, none⟩ = some (.string t.nm) ∧ w'.cell? ⟨bb, 4, none⟩ = some (.string t.tn) ∧ w'.cell? ⟨bb, 5, none⟩ = some (.int .i64 t.sh.kd) ∧ w'.cell? ⟨bb, 6, none⟩ = some (.slice p1 n1 m1) ∧ w'.cell? ⟨bb, 7, none⟩ = some (.slice p2 n2 m2) ∧ w'.cell? ⟨bb, 8, none⟩ = some (.slice p3 n3 m3) ∧ w'.cell? ⟨bb, 9, none⟩ = some (.int .i64 t.ws.kd) ∧ w'.cell? ⟨bb, 10, none⟩ = some (.slice q1 i1 j1) ∧ w'.cell? ⟨bb, 11, none⟩ = some (.slice q2 i2 j2) ∧ w'.cell? ⟨bb, 12, none⟩ = some (.slice q3 i3 j3)) (by kernel_rfl) (by kernel_rfl) (by rintro ⟨_, _, h⟩; exact h) (HSK.out _ (Below.refl _ w1).drew) (fun hHeld => ?_)
      refine wpAnyH_take (i := 1) (oi := _) (v := .agg #[.int .i64 t.kd, .slice p0 t.path.length m0, .int .i64 t.pl, .string t.nm, .string t.tn, .int .i64 t.sh.kd, .slice p1 n1 m1, .slice p2 n2 m2, .slice p3 n3 m3, .int .i64 t.ws.kd, .slice q1 i1 j1, .slice q2 i2 j2, .slice q3 i3 j3]) rfl (by kernel_rfl) (by kernel_rfl) (by kernel_rfl) (fun _ _ _ h => h) (Or.inl ⟨by rfl, ?_⟩) (by assumption) ?_
      · rintro w' ⟨b0, b1, b2, b3, b4, b5, b6, b7, b8, b9, b10, b11, b12⟩
        go_simp
        try with_reducible rfl
      change wpAnyH _ _ _ _ _ 5 #[false, true, false, false, false, false] { tmps := #[.slice a l.length cap, undef, .pointer (some ⟨w.heap.size, 0, none⟩), .pointer (some ⟨w.heap.size + 1, 0, none⟩), undef, .pointer (some ⟨bb, 0, none⟩), s6, s7, s8, s9, s10, s11, s12, .agg #[.int .i64 t.kd, .slice p0 t.path.length m0, .int .i64 t.pl, .string t.nm, .string t.tn, .int .i64 t.sh.kd, .slice p1 n1 m1, .slice p2 n2 m2, .slice p3 n3 m3, .int .i64 t.ws.kd, .slice q1 i1 j1, .slice q2 i2 j2, .slice q3 i3 j3], .bool true, .bool false, undef, .agg #[.int .i64 t.kd, .slice p0 t.path.length m0, .int .i64 t.pl, .string t.nm, .string t.tn, .int .i64 t.sh.kd, .slice p1 n1 m1, .slice p2 n2 m2, .slice p3 n3 m3, .int .i64 t.ws.kd, .slice q1 i1 j1, .slice q2 i2 j2, .slice q3 i3 j3], undef, undef, undef, undef], defers := [] } _
      refine wpAnyH_ready (rs := [0, 2]) (by kernel_rfl) (by simp) ?_
      refine AllReadyH.cons rfl (fun K hK => ?_) ?_
      · go_simp
        refine hK.out _ _ (HSK.out _ (Below.refl _ w1).drew) (fun _ => ?_)
        clear hK K
        change wpAnyH _ _ _ _ _ 4 #[true, true, false, false, false, false] { tmps := #[.slice a l.length cap, undef, .pointer (some ⟨w.heap.size, 0, none⟩), .pointer (some ⟨w.heap.size + 1, 0, none⟩), undef, .pointer (some ⟨bb, 0, none⟩), s6, s7, s8, s9, s10, s11, s12, .agg #[.int .i64 t.kd, .slice p0 t.path.length m0, .int .i64 t.pl, .string t.nm, .string t.tn, .int .i64 t.sh.kd, .slice p1 n1 m1, .slice p2 n2 m2, .slice p3 n3 m3, .int .i64 t.ws.kd, .slice q1 i1 j1, .slice q2 i2 j2, .slice q3 i3 j3], .bool true, .bool false, .slice p n cap', .agg #[.int .i64 t.kd, .slice p0 t.path.length m0, .int .i64 t.pl, .string t.nm, .string t.tn, .int .i64 t.sh.kd, .slice p1 n1 m1, .slice p2 n2 m2, .slice p3 n3 m3, .int .i64 t.ws.kd, .slice q1 i1 j1, .slice q2 i2 j2, .slice q3 i3 j3], undef, undef, undef, undef], defers := [] } _
        refine wpAnyH_ready (rs := [2]) (by kernel_rfl) (by simp) ?_
        refine AllReadyH.cons rfl (fun K hK => ?_) AllReadyH.nil
        go_simp
        refine HUC.out.mono ?_
        rintro e w2 ⟨v2, F2, rfl, ho, hn, hb2⟩
        obtain ⟨e0, e1, e2, e3, e4, e5, e6, e7, e8, e9, e10, e11, e12, e13, e14, e15, e16, e17, e18, e19, rfl, _, _, _, _, _, _, _⟩ := ho.is
        have X2 : Hid (Below w1.heap.size w1 w2) := (Below.refl _ w1).drew.trans hb2
        have HO2 := Lib.hid ho
        have HN2' := Lib.hid hn
        clear ho hn hb2
        try clear k0 z0
        have k0 := Keeps.of_below X2.out _ _ _ CO1.out.1
        have z0 : w2.frozen? ⟨w.heap.size + 1, 0, none⟩ = false := by rw [X2.out.frozen (p := ⟨w.heap.size + 1, 0, none⟩) (World.block_lt_of_cell? w1 ⟨w.heap.size + 1, 0, none⟩ CO1.out.1)]; exact CO1.out.2
        change K _ _
        refine hK.out _ _ (HSK.out _ X2.out) (fun _ => ?_)
        clear hK K
        change wpAnyH _ _ _ _ _ 3 #[true, true, true, false, false, false] { tmps := #[.slice a l.length cap, undef, .pointer (some ⟨w.heap.size, 0, none⟩), .pointer (some ⟨w.heap.size + 1, 0, none⟩), undef, .pointer (some ⟨bb, 0, none⟩), s6, s7, s8, s9, s10, s11, s12, .agg #[.int .i64 t.kd, .slice p0 t.path.length m0, .int .i64 t.pl, .string t.nm, .string t.tn, .int .i64 t.sh.kd, .slice p1 n1 m1, .slice p2 n2 m2, .slice p3 n3 m3, .int .i64 t.ws.kd, .slice q1 i1 j1, .slice q2 i2 j2, .slice q3 i3 j3], .bool true, .bool false, .slice p n cap', .agg #[.int .i64 t.kd, .slice p0 t.path.length m0, .int .i64 t.pl, .string t.nm, .string t.tn, .int .i64 t.sh.kd, .slice p1 n1 m1, .slice p2 n2 m2, .slice p3 n3 m3, .int .i64 t.ws.kd, .slice q1 i1 j1, .slice q2 i2 j2, .slice q3 i3 j3], .agg #[.int .i64 (undoneR t).kd, .slice e0 (undoneR t).path.length e1, .int .i64 (undoneR t).pl, .string (undoneR t).nm, .string (undoneR t).tn, .int .i64 (undoneR t).sh.kd, .slice e2 e3 e4, .slice e5 e6 e7, .slice e8 e9 e10, .int .i64 (undoneR t).ws.kd, .slice e11 e12 e13, .slice e14 e15 e16, .slice e17 e18 e19], undef, undef, undef], defers := [] } _
        refine wpAnyH_ready (rs := [3]) (by kernel_rfl) (by simp) ?_
        refine AllReadyH.cons rfl (fun K hK => ?_) AllReadyH.nil
        go_simp
        refine hK.out _ _ (HSK.out _ (X2.out.alloc X2.out.size _)) (fun _ => ?_)
        clear hK K
        change wpAnyH _ _ _ _ _ 2 #[true, true, true, true, false, false] { tmps := #[.slice a l.length cap, undef, .pointer (some ⟨w.heap.size, 0, none⟩), .pointer (some ⟨w.heap.size + 1, 0, none⟩), undef, .pointer (some ⟨bb, 0, none⟩), s6, s7, s8, s9, s10, s11, s12, .agg #[.int .i64 t.kd, .slice p0 t.path.length m0, .int .i64 t.pl, .string t.nm, .string t.tn, .int .i64 t.sh.kd, .slice p1 n1 m1, .slice p2 n2 m2, .slice p3 n3 m3, .int .i64 t.ws.kd, .slice q1 i1 j1, .slice q2 i2 j2, .slice q3 i3 j3], .bool true, .bool false, .slice p n cap', .agg #[.int .i64 t.kd, .slice p0 t.path.length m0, .int .i64 t.pl, .string t.nm, .string t.tn, .int .i64 t.sh.kd, .slice p1 n1 m1, .slice p2 n2 m2, .slice p3 n3 m3, .int .i64 t.ws.kd, .slice q1 i1 j1, .slice q2 i2 j2, .slice q3 i3 j3], .agg #[.int .i64 (undoneR t).kd, .slice e0 (undoneR t).path.length e1, .int .i64 (undoneR t).pl, .string (undoneR t).nm, .string (undoneR t).tn, .int .i64 (undoneR t).sh.kd, .slice e2 e3 e4, .slice e5 e6 e7, .slice e8 e9 e10, .int .i64 (undoneR t).ws.kd, .slice e11 e12 e13, .slice e14 e15 e16, .slice e17 e18 e19], .slice (some ⟨w2.heap.size, 0, none⟩) 1 1, undef, undef], defers := [] } _
        refine wpAnyH_ready (rs := [4]) (by kernel_rfl) (by simp) ?_
        refine AllReadyH.cons rfl (fun K hK => ?_) AllReadyH.nil
        have R2 := Lib.hid (R1.out.below X2.out)
        refine step_ed w2 rfl (.tmp 16) (.tmp 19) rfl W0.heap.size p n cap' cs _ _ _ _ _ _ _ _ _ _ _ _ _ _ _ _ _ _ _ _ _ _ _ _ _ _ _ rfl R2.out.2.1 rfl (by have h1 := R2.out.1; have h2 := HPL.out; simp at h1; omega) (Nat.le_trans B01.out.size X2.out.size) ?_
        intro p' cap2 w3 hv hy hq
        obtain ⟨⟨k3, z3⟩, A5, A6, hko, hkp, hJ⟩ := bk_step HT.out HOK.out OK.out HZ.out HB.out HB0.out X1.out X2.out CR1.out CO1.out R1.out HO2.out HN2'.out HNX.out HBB.out A3.out hv hy hq
        have HKO := Lib.hid hko
        have HKP := Lib.hid hkp
        have HJ := Lib.hid hJ
        clear hv hy hq hko hkp hJ
        refine hK.out _ _ ⟨cel A5 0 rfl, cel A5 1 rfl, cel A5 2 rfl, cel A5 3 rfl, cel A5 4 rfl, cel A5 5 rfl, cel A5 6 rfl, cel A5 7 rfl, cel A5 8 rfl, cel A5 9 rfl, cel A5 10 rfl, cel A5 11 rfl, cel A5 12 rfl⟩ (fun _ => ?_)
        clear hK K
        change wpAnyH _ _ _ _ _ 1 #[true, true, true, true, true, false] { tmps := #[.slice a l.length cap, undef, .pointer (some ⟨w.heap.size, 0, none⟩), .pointer (some ⟨w.heap.size + 1, 0, none⟩), undef, .pointer (some ⟨bb, 0, none⟩), s6, s7, s8, s9, s10, s11, s12, .agg #[.int .i64 t.kd, .slice p0 t.path.length m0, .int .i64 t.pl, .string t.nm, .string t.tn, .int .i64 t.sh.kd, .slice p1 n1 m1, .slice p2 n2 m2, .slice p3 n3 m3, .int .i64 t.ws.kd, .slice q1 i1 j1, .slice q2 i2 j2, .slice q3 i3 j3], .bool true, .bool false, .slice p n cap', .agg #[.int .i64 t.kd, .slice p0 t.path.length m0, .int .i64 t.pl, .string t.nm, .string t.tn, .int .i64 t.sh.kd, .slice p1 n1 m1, .slice p2 n2 m2, .slice p3 n3 m3, .int .i64 t.ws.kd, .slice q1 i1 j1, .slice q2 i2 j2, .slice q3 i3 j3], .agg #[.int .i64 (undoneR t).kd, .slice e0 (undoneR t).path.length e1, .int .i64 (undoneR t).pl, .string (undoneR t).nm, .string (undoneR t).tn, .int .i64 (undoneR t).sh.kd, .slice e2 e3 e4, .slice e5 e6 e7, .slice e8 e9 e10, .int .i64 (undoneR t).ws.kd, .slice e11 e12 e13, .slice e14 e15 e16, .slice e17 e18 e19], .slice (some ⟨w2.heap.size, 0, none⟩) 1 1, (.slice p' (n + 1) cap2), undef], defers := [] } _
        refine wpAnyH_ready (rs := [5]) (by kernel_rfl) (by simp) ?_
        refine AllReadyH.cons rfl (fun K hK => ?_) AllReadyH.nil
        go_simp
        refine hK.out _ _ ⟨cel A6 0 rfl, cel A6 1 rfl, cel A6 2 rfl, cel A6 3 rfl, cel A6 4 rfl, cel A6 5 rfl, cel A6 6 rfl, cel A6 7 rfl, cel A6 8 rfl, cel A6 9 rfl, cel A6 10 rfl, cel A6 11 rfl, cel A6 12 rfl⟩ (fun _ => ?_)
        clear hK K
        refine wpAnyH_done (by kernel_rfl) ?_ _
        gi_wp2
        exact ⟨HKO.out.from _, HKP.out, HJ.out⟩
      refine AllReadyH.cons rfl (fun K hK => ?_) AllReadyH.nil
      go_simp
      refine HUC.out.mono ?_
      rintro e w2 ⟨v2, F2, rfl, ho, hn, hb2⟩
      obtain ⟨e0, e1, e2, e3, e4, e5, e6, e7, e8, e9, e10, e11, e12, e13, e14, e15, e16, e17, e18, e19, rfl, _, _, _, _, _, _, _⟩ := ho.is
      have X2 : Hid (Below w1.heap.size w1 w2) := (Below.refl _ w1).drew.trans hb2
      have HO2 := Lib.hid ho
      have HN2' := Lib.hid hn
      clear ho hn hb2
      try clear k0 z0
      have k0 := Keeps.of_below X2.out _ _ _ CO1.out.1
      have z0 : w2.frozen? ⟨w.heap.size + 1, 0, none⟩ = false := by rw [X2.out.frozen (p := ⟨w.heap.size + 1, 0, none⟩) (World.block_lt_of_cell? w1 ⟨w.heap.size + 1, 0, none⟩ CO1.out.1)]; exact CO1.out.2
      change K _ _
      refine hK.out _ _ (HSK.out _ X2.out) (fun _ => ?_)
      clear hK K
      change wpAnyH _ _ _ _ _ 4 #[false, true, true, false, false, false] { tmps := #[.slice a l.length cap, undef, .pointer (some ⟨w.heap.size, 0, none⟩), .pointer (some ⟨w.heap.size + 1, 0, none⟩), undef, .pointer (some ⟨bb, 0, none⟩), s6, s7, s8, s9, s10, s11, s12, .agg #[.int .i64 t.kd, .slice p0 t.path.length m0, .int .i64 t.pl, .string t.nm, .string t.tn, .int .i64 t.sh.kd, .slice p1 n1 m1, .slice p2 n2 m2, .slice p3 n3 m3, .int .i64 t.ws.kd, .slice q1 i1 j1, .slice q2 i2 j2, .slice q3 i3 j3], .bool true, .bool false, undef, .agg #[.int .i64 t.kd, .slice p0 t.path.length m0, .int .i64 t.pl, .string t.nm, .string t.tn, .int .i64 t.sh.kd, .slice p1 n1 m1, .slice p2 n2 m2, .slice p3 n3 m3, .int .i64 t.ws.kd, .slice q1 i1 j1, .slice q2 i2 j2, .slice q3 i3 j3], .agg #[.int .i64 (undoneR t).kd, .slice e0 (undoneR t).path.length e1, .int .i64 (undoneR t).pl, .string (undoneR t).nm, .string (undoneR t).tn, .int .i64 (undoneR t).sh.kd, .slice e2 e3 e4, .slice e5 e6 e7, .slice e8 e9 e10, .int .i64 (undoneR t).ws.kd, .slice e11 e12 e13, .slice e14 e15 e16, .slice e17 e18 e19], undef, undef, undef], defers := [] } _
      refine wpAnyH_ready (rs := [0, 3]) (by kernel_rfl) (by simp) ?_
      refine AllReadyH.cons rfl (fun K hK => ?_) ?_
      · go_simp
        refine hK.out _ _ (HSK.out _ X2.out) (fun _ => ?_)
        clear hK K
        change wpAnyH _ _ _ _ _ 3 #[true, true, true, false, false, false] { tmps := #[.slice a l.length cap, undef, .pointer (some ⟨w.heap.size, 0, none⟩), .pointer (some ⟨w.heap.size + 1, 0, none⟩), undef, .pointer (some ⟨bb, 0, none⟩), s6, s7, s8, s9, s10, s11, s12, .agg #[.int .i64 t.kd, .slice p0 t.path.length m0, .int .i64 t.pl, .string t.nm, .string t.tn, .int .i64 t.sh.kd, .slice p1 n1 m1, .slice p2 n2 m2, .slice p3 n3 m3, .int .i64 t.ws.kd, .slice q1 i1 j1, .slice q2 i2 j2, .slice q3 i3 j3], .bool true, .bool false, .slice p n cap', .agg #[.int .i64 t.kd, .slice p0 t.path.length m0, .int .i64 t.pl, .string t.nm, .string t.tn, .int .i64 t.sh.kd, .slice p1 n1 m1, .slice p2 n2 m2, .slice p3 n3 m3, .int .i64 t.ws.kd, .slice q1 i1 j1, .slice q2 i2 j2, .slice q3 i3 j3], .agg #[.int .i64 (undoneR t).kd, .slice e0 (undoneR t).path.length e1, .int .i64 (undoneR t).pl, .string (undoneR t).nm, .string (undoneR t).tn, .int .i64 (undoneR t).sh.kd, .slice e2 e3 e4, .slice e5 e6 e7, .slice e8 e9 e10, .int .i64 (undoneR t).ws.kd, .slice e11 e12 e13, .slice e14 e15 e16, .slice e17 e18 e19], undef, undef, undef], defers := [] } _
        refine wpAnyH_ready (rs := [3]) (by kernel_rfl) (by simp) ?_
        refine AllReadyH.cons rfl (fun K hK => ?_) AllReadyH.nil
        go_simp
        refine hK.out _ _ (HSK.out _ (X2.out.alloc X2.out.size _)) (fun _ => ?_)
        clear hK K
        change wpAnyH _ _ _ _ _ 2 #[true, true, true, true, false, false] { tmps := #[.slice a l.length cap, undef, .pointer (some ⟨w.heap.size, 0, none⟩), .pointer (some ⟨w.heap.size + 1, 0, none⟩), undef, .pointer (some ⟨bb, 0, none⟩), s6, s7, s8, s9, s10, s11, s12, .agg #[.int .i64 t.kd, .slice p0 t.path.length m0, .int .i64 t.pl, .string t.nm, .string t.tn, .int .i64 t.sh.kd, .slice p1 n1 m1, .slice p2 n2 m2, .slice p3 n3 m3, .int .i64 t.ws.kd, .slice q1 i1 j1, .slice q2 i2 j2, .slice q3 i3 j3], .bool true, .bool false, .slice p n cap', .agg #[.int .i64 t.kd, .slice p0 t.path.length m0, .int .i64 t.pl, .string t.nm, .string t.tn, .int .i64 t.sh.kd, .slice p1 n1 m1, .slice p2 n2 m2, .slice p3 n3 m3, .int .i64 t.ws.kd, .slice q1 i1 j1, .slice q2 i2 j2, .slice q3 i3 j3], .agg #[.int .i64 (undoneR t).kd, .slice e0 (undoneR t).path.length e1, .int .i64 (undoneR t).pl, .string (undoneR t).nm, .string (undoneR t).tn, .int .i64 (undoneR t).sh.kd, .slice e2 e3 e4, .slice e5 e6 e7, .slice e8 e9 e10, .int .i64 (undoneR t).ws.kd, .slice e11 e12 e13, .slice e14 e15 e16, .slice e17 e18 e19], .slice (some ⟨w2.heap.size, 0, none⟩) 1 1, undef, undef], defers := [] } _
        refine wpAnyH_ready (rs := [4]) (by kernel_rfl) (by simp) ?_
        refine AllReadyH.cons rfl (fun K hK => ?_) AllReadyH.nil
        have R2 := Lib.hid (R1.out.below X2.out)
        refine step_ed w2 rfl (.tmp 16) (.tmp 19) rfl W0.heap.size p n cap' cs _ _ _ _ _ _ _ _ _ _ _ _ _ _ _ _ _ _ _ _ _ _ _ _ _ _ _ rfl R2.out.2.1 rfl (by have h1 := R2.out.1; have h2 := HPL.out; simp at h1; omega) (Nat.le_trans B01.out.size X2.out.size) ?_
        intro p' cap2 w3 hv hy hq
        obtain ⟨⟨k3, z3⟩, A5, A6, hko, hkp, hJ⟩ := bk_step HT.out HOK.out OK.out HZ.out HB.out HB0.out X1.out X2.out CR1.out CO1.out R1.out HO2.out HN2'.out HNX.out HBB.out A3.out hv hy hq
        have HKO := Lib.hid hko
        have HKP := Lib.hid hkp
        have HJ := Lib.hid hJ
        clear hv hy hq hko hkp hJ
        refine hK.out _ _ ⟨cel A5 0 rfl, cel A5 1 rfl, cel A5 2 rfl, cel A5 3 rfl, cel A5 4 rfl, cel A5 5 rfl, cel A5 6 rfl, cel A5 7 rfl, cel A5 8 rfl, cel A5 9 rfl, cel A5 10 rfl, cel A5 11 rfl, cel A5 12 rfl⟩ (fun _ => ?_)
        clear hK K
        change wpAnyH _ _ _ _ _ 1 #[true, true, true, true, true, false] { tmps := #[.slice a l.length cap, undef, .pointer (some ⟨w.heap.size, 0, none⟩), .pointer (some ⟨w.heap.size + 1, 0, none⟩), undef, .pointer (some ⟨bb, 0, none⟩), s6, s7, s8, s9, s10, s11, s12, .agg #[.int .i64 t.kd, .slice p0 t.path.length m0, .int .i64 t.pl, .string t.nm, .string t.tn, .int .i64 t.sh.kd, .slice p1 n1 m1, .slice p2 n2 m2, .slice p3 n3 m3, .int .i64 t.ws.kd, .slice q1 i1 j1, .slice q2 i2 j2, .slice q3 i3 j3], .bool true, .bool false, .slice p n cap', .agg #[.int .i64 t.kd, .slice p0 t.path.length m0, .int .i64 t.pl, .string t.nm, .string t.tn, .int .i64 t.sh.kd, .slice p1 n1 m1, .slice p2 n2 m2, .slice p3 n3 m3, .int .i64 t.ws.kd, .slice q1 i1 j1, .slice q2 i2 j2, .slice q3 i3 j3], .agg #[.int .i64 (undoneR t).kd, .slice e0 (undoneR t).path.length e1, .int .i64 (undoneR t).pl, .string (undoneR t).nm, .string (undoneR t).tn, .int .i64 (undoneR t).sh.kd, .slice e2 e3 e4, .slice e5 e6 e7, .slice e8 e9 e10, .int .i64 (undoneR t).ws.kd, .slice e11 e12 e13, .slice e14 e15 e16, .slice e17 e18 e19], .slice (some ⟨w2.heap.size, 0, none⟩) 1 1, (.slice p' (n + 1) cap2), undef], defers := [] } _
        refine wpAnyH_ready (rs := [5]) (by kernel_rfl) (by simp) ?_
        refine AllReadyH.cons rfl (fun K hK => ?_) AllReadyH.nil
        go_simp
        refine hK.out _ _ ⟨cel A6 0 rfl, cel A6 1 rfl, cel A6 2 rfl, cel A6 3 rfl, cel A6 4 rfl, cel A6 5 rfl, cel A6 6 rfl, cel A6 7 rfl, cel A6 8 rfl, cel A6 9 rfl, cel A6 10 rfl, cel A6 11 rfl, cel A6 12 rfl⟩ (fun _ => ?_)
        clear hK K
        refine wpAnyH_done (by kernel_rfl) ?_ _
        gi_wp2
        exact ⟨HKO.out.from _, HKP.out, HJ.out⟩
      refine AllReadyH.cons rfl (fun K hK => ?_) AllReadyH.nil
      go_simp
      refine hK.out _ _ (HSK.out _ (X2.out.alloc X2.out.size _)) (fun _ => ?_)
      clear hK K
      change wpAnyH _ _ _ _ _ 3 #[false, true, true, true, false, false] { tmps := #[.slice a l.length cap, undef, .pointer (some ⟨w.heap.size, 0, none⟩), .pointer (some ⟨w.heap.size + 1, 0, none⟩), undef, .pointer (some ⟨bb, 0, none⟩), s6, s7, s8, s9, s10, s11, s12, .agg #[.int .i64 t.kd, .slice p0 t.path.length m0, .int .i64 t.pl, .string t.nm, .string t.tn, .int .i64 t.sh.kd, .slice p1 n1 m1, .slice p2 n2 m2, .slice p3 n3 m3, .int .i64 t.ws.kd, .slice q1 i1 j1, .slice q2 i2 j2, .slice q3 i3 j3], .bool true, .bool false, undef, .agg #[.int .i64 t.kd, .slice p0 t.path.length m0, .int .i64 t.pl, .string t.nm, .string t.tn, .int .i64 t.sh.kd, .slice p1 n1 m1, .slice p2 n2 m2, .slice p3 n3 m3, .int .i64 t.ws.kd, .slice q1 i1 j1, .slice q2 i2 j2, .slice q3 i3 j3], .agg #[.int .i64 (undoneR t).kd, .slice e0 (undoneR t).path.length e1, .int .i64 (undoneR t).pl, .string (undoneR t).nm, .string (undoneR t).tn, .int .i64 (undoneR t).sh.kd, .slice e2 e3 e4, .slice e5 e6 e7, .slice e8 e9 e10, .int .i64 (undoneR t).ws.kd, .slice e11 e12 e13, .slice e14 e15 e16, .slice e17 e18 e19], .slice (some ⟨w2.heap.size, 0, none⟩) 1 1, undef, undef], defers := [] } _
      refine wpAnyH_ready (rs := [0]) (by kernel_rfl) (by simp) ?_
      refine AllReadyH.cons rfl (fun K hK => ?_) AllReadyH.nil
      have k5 : (w2.alloc (.cells #[.int .i64 (undoneR t).kd, .slice e0 (undoneR t).path.length e1, .int .i64 (undoneR t).pl, .string (undoneR t).nm, .string (undoneR t).tn, .int .i64 (undoneR t).sh.kd, .slice e2 e3 e4, .slice e5 e6 e7, .slice e8 e9 e10, .int .i64 (undoneR t).ws.kd, .slice e11 e12 e13, .slice e14 e15 e16, .slice e17 e18 e19] 33)).cell? ⟨w.heap.size + 1, 0, none⟩ = some (.slice p n cap') := keeps_alloc _ _ _ _ _ k0
      go_simp
      refine hK.out _ _ (HSK.out _ (X2.out.alloc X2.out.size _)) (fun _ => ?_)
      clear hK K
      change wpAnyH _ _ _ _ _ 2 #[true, true, true, true, false, false] { tmps := #[.slice a l.length cap, undef, .pointer (some ⟨w.heap.size, 0, none⟩), .pointer (some ⟨w.heap.size + 1, 0, none⟩), undef, .pointer (some ⟨bb, 0, none⟩), s6, s7, s8, s9, s10, s11, s12, .agg #[.int .i64 t.kd, .slice p0 t.path.length m0, .int .i64 t.pl, .string t.nm, .string t.tn, .int .i64 t.sh.kd, .slice p1 n1 m1, .slice p2 n2 m2, .slice p3 n3 m3, .int .i64 t.ws.kd, .slice q1 i1 j1, .slice q2 i2 j2, .slice q3 i3 j3], .bool true, .bool false, .slice p n cap', .agg #[.int .i64 t.kd, .slice p0 t.path.length m0, .int .i64 t.pl, .string t.nm, .string t.tn, .int .i64 t.sh.kd, .slice p1 n1 m1, .slice p2 n2 m2, .slice p3 n3 m3, .int .i64 t.ws.kd, .slice q1 i1 j1, .slice q2 i2 j2, .slice q3 i3 j3], .agg #[.int .i64 (undoneR t).kd, .slice e0 (undoneR t).path.length e1, .int .i64 (undoneR t).pl, .string (undoneR t).nm, .string (undoneR t).tn, .int .i64 (undoneR t).sh.kd, .slice e2 e3 e4, .slice e5 e6 e7, .slice e8 e9 e10, .int .i64 (undoneR t).ws.kd, .slice e11 e12 e13, .slice e14 e15 e16, .slice e17 e18 e19], .slice (some ⟨w2.heap.size, 0, none⟩) 1 1, undef, undef], defers := [] } _
      refine wpAnyH_ready (rs := [4]) (by kernel_rfl) (by simp) ?_
      refine AllReadyH.cons rfl (fun K hK => ?_) AllReadyH.nil
      have R2 := Lib.hid (R1.out.below X2.out)
      refine step_ed w2 rfl (.tmp 16) (.tmp 19) rfl W0.heap.size p n cap' cs _ _ _ _ _ _ _ _ _ _ _ _ _ _ _ _ _ _ _ _ _ _ _ _ _ _ _ rfl R2.out.2.1 rfl (by have h1 := R2.out.1; have h2 := HPL.out; simp at h1; omega) (Nat.le_trans B01.out.size X2.out.size) ?_
      intro p' cap2 w3 hv hy hq
      obtain ⟨⟨k3, z3⟩, A5, A6, hko, hkp, hJ⟩ := bk_step HT.out HOK.out OK.out HZ.out HB.out HB0.out X1.out X2.out CR1.out CO1.out R1.out HO2.out HN2'.out HNX.out HBB.out A3.out hv hy hq
      have HKO := Lib.hid hko
      have HKP := Lib.hid hkp
      have HJ := Lib.hid hJ
      clear hv hy hq hko hkp hJ
      refine hK.out _ _ ⟨cel A5 0 rfl, cel A5 1 rfl, cel A5 2 rfl, cel A5 3 rfl, cel A5 4 rfl, cel A5 5 rfl, cel A5 6 rfl, cel A5 7 rfl, cel A5 8 rfl, cel A5 9 rfl, cel A5 10 rfl, cel A5 11 rfl, cel A5 12 rfl⟩ (fun _ => ?_)
      clear hK K
      change wpAnyH _ _ _ _ _ 1 #[true, true, true, true, true, false] { tmps := #[.slice a l.length cap, undef, .pointer (some ⟨w.heap.size, 0, none⟩), .pointer (some ⟨w.heap.size + 1, 0, none⟩), undef, .pointer (some ⟨bb, 0, none⟩), s6, s7, s8, s9, s10, s11, s12, .agg #[.int .i64 t.kd, .slice p0 t.path.length m0, .int .i64 t.pl, .string t.nm, .string t.tn, .int .i64 t.sh.kd, .slice p1 n1 m1, .slice p2 n2 m2, .slice p3 n3 m3, .int .i64 t.ws.kd, .slice q1 i1 j1, .slice q2 i2 j2, .slice q3 i3 j3], .bool true, .bool false, .slice p n cap', .agg #[.int .i64 t.kd, .slice p0 t.path.length m0, .int .i64 t.pl, .string t.nm, .string t.tn, .int .i64 t.sh.kd, .slice p1 n1 m1, .slice p2 n2 m2, .slice p3 n3 m3, .int .i64 t.ws.kd, .slice q1 i1 j1, .slice q2 i2 j2, .slice q3 i3 j3], .agg #[.int .i64 (undoneR t).kd, .slice e0 (undoneR t).path.length e1, .int .i64 (undoneR t).pl, .string (undoneR t).nm, .string (undoneR t).tn, .int .i64 (undoneR t).sh.kd, .slice e2 e3 e4, .slice e5 e6 e7, .slice e8 e9 e10, .int .i64 (undoneR t).ws.kd, .slice e11 e12 e13, .slice e14 e15 e16, .slice e17 e18 e19], .slice (some ⟨w2.heap.size, 0, none⟩) 1 1, (.slice p' (n + 1) cap2), undef], defers := [] } _
      refine wpAnyH_ready (rs := [5]) (by kernel_rfl) (by simp) ?_
      refine AllReadyH.cons rfl (fun K hK => ?_) AllReadyH.nil
      go_simp
      refine hK.out _ _ ⟨cel A6 0 rfl, cel A6 1 rfl, cel A6 2 rfl, cel A6 3 rfl, cel A6 4 rfl, cel A6 5 rfl, cel A6 6 rfl, cel A6 7 rfl, cel A6 8 rfl, cel A6 9 rfl, cel A6 10 rfl, cel A6 11 rfl, cel A6 12 rfl⟩ (fun _ => ?_)
      clear hK K
      refine wpAnyH_done (by kernel_rfl) ?_ _
      gi_wp2
      exact ⟨HKO.out.from _, HKP.out, HJ.out⟩
  case done =>
    rintro D ys W hD rfl ⟨⟨⟨hok, hcr, hfr, p, n, cap', cs, F, hco, hfo, hR⟩, hB⟩, hB0⟩ hK
    have HE : Hid (r = (List.finRange l.length).map fun y => undoneR (nthB l y)) := HR.out.symm.trans (backs_all (by have := HL.out; omega) hok)
    gi_wp2
    have hK' := (KeepsOthers.setCell W ⟨w.heap.size, 0, none⟩ (.slice p n cap')).same D _ hK rfl
    refine ⟨by simp, .inl ⟨_, _, rfl, run_takeDeferred hK', ?_⟩⟩
    have hc5 := cell_kept (World.cell?_setCell_same' W ⟨w.heap.size, 0, none⟩ (.slice p n cap') (by rw [hcr]; rfl)) (grownBy_putObj' _ D (.deferred none)) (fun r e => by cases e; exact ⟨_, hK', rfl⟩)
    have hR1 := hR.move (w' := W.setCell ⟨w.heap.size, 0, none⟩ (.slice p n cap')) fun g hg => Below.heap_setCell _ _ _ _ (show g ≠ w.heap.size by have h1 := (hR.lt g hg).1; have h2 := HZ.out; omega)
    have hR2 := grown_blocks hR1.cells' (grownBy_putObj' _ D (.deferred none)) (fun r e => by cases e; exact ⟨_, hK', rfl⟩)
    refine ⟨.slice p n cap', ?_, p, n, cap', cs, F, rfl, ?_⟩
    · simp [results, Tryd.f16, go_sem, hc5]
    · rw [HE.out]
      exact bk_out hR1 hR2 (by have := HZ.out; omega) ((hB.setCell (p := ⟨w.heap.size, 0, none⟩) (Nat.le_refl _) _).trans (belowK_b (w := w) (Nat.le_refl _) _ D _ _ (by have := HZ.out; omega) hK' rfl rfl))
  case stop =>
    rintro D c pre W hD _ ⟨⟨⟨rfl, hcr, haf⟩, hB⟩, hB0⟩ hK
    have HE : Hid (r = []) := HR.out.symm.trans (backs_has haf)
    gi_wp2
    refine ⟨by simp, .inl ⟨_, _, rfl, run_takeDeferred hK, ?_⟩⟩
    have hc5 := cell_kept hcr (grownBy_putObj' _ D (.deferred none)) (fun r e => by cases e; exact ⟨_, hK, rfl⟩)
    refine ⟨.slice none 0 0, ?_, none, 0, 0, [], [], rfl, ?_⟩
    · simp [results, Tryd.f16, go_sem, hc5]
    · rw [HE.out]
      exact bk_out (rowe_nil w.heap.size W) (by simp [blkOf]) (Nat.le_refl _) (hB.trans (belowK_b (w := w) (Nat.le_refl _) W D _ _ (by have := HZ.out; omega) hK rfl rfl))
end Go.Proofs.YtfdhmkmeffgkgaaDoor
