/- Rows of Edits' cells: pieces of them, put together. · Walk: impl.trimmed. -/
import Derived.Test.YtfdhmkmeffgkgaaDoorGTrP
import Derived.Test.YtfdhmkmeffgkgaaDoorGPuA
import Derived.Test.YtfdhmkmeffgkgaaDoorGMkE
import Derived.Test.YtfdhmkmeffgkgaaDoorGTrA
import Derived.Deep.RegionLawGrows
import Derived.IntWalk
namespace Go.Proofs.YtfdhmkmeffgkgaaDoor
open Go.RowKit

theorem add_atE (b off j : Nat) : (⟨b, off, none⟩ : Addr).add j = ⟨b, off + j, none⟩ := by unfold Addr.add; split <;> simp_all
/-- Cells that hold the Edits l. -/
def EdsAre (w : World) : List Value → List Ed → Prop
  | cs, [] => cs = []
  | cs, x :: l => ∃ c0 c1 c2 c3 c4 c5 c6 c7 c8 c9 c10 c11 c12 cs', cs = c0 :: c1 :: c2 :: c3 :: c4 :: c5 :: c6 :: c7 :: c8 :: c9 :: c10 :: c11 :: c12 :: cs' ∧ IsEd w x (.agg #[c0, c1, c2, c3, c4, c5, c6, c7, c8, c9, c10, c11, c12]) ∧ EdsAre w cs' l
theorem EdsAre.keep {w w' : World} (hk : Keeps w w') : ∀ {l : List Ed} {cs : List Value}, EdsAre w cs l → EdsAre w' cs l
  | [], _, h => h
  | x :: l, _, h => by
    obtain ⟨c0, c1, c2, c3, c4, c5, c6, c7, c8, c9, c10, c11, c12, cs', e, h1, h2⟩ := h
    exact ⟨c0, c1, c2, c3, c4, c5, c6, c7, c8, c9, c10, c11, c12, cs', e, h1.keep hk, h2.keep hk⟩
theorem EdsAre.app {w : World} : ∀ {l m : List Ed} {cs ds : List Value}, EdsAre w cs l → EdsAre w ds m → EdsAre w (cs ++ ds) (l ++ m)
  | [], m, cs, ds, h, g => by rw [show cs = [] from h]; exact g
  | x :: l, m, cs, ds, h, g => by
    obtain ⟨c0, c1, c2, c3, c4, c5, c6, c7, c8, c9, c10, c11, c12, cs', rfl, h1, h2⟩ := h
    exact ⟨c0, c1, c2, c3, c4, c5, c6, c7, c8, c9, c10, c11, c12, cs' ++ ds, rfl, h1, h2.app g⟩
theorem EdsAre.len {w : World} : ∀ {l : List Ed} {cs : List Value}, EdsAre w cs l → cs.length = l.length * 13
  | [], cs, h => by rw [show cs = [] from h]; rfl
  | x :: l, cs, h => by
    obtain ⟨c0, c1, c2, c3, c4, c5, c6, c7, c8, c9, c10, c11, c12, cs', rfl, _, h2⟩ := h
    have := h2.len
    simp only [List.length_cons]; omega
theorem EdsAre.cut {w : World} : ∀ {l : List Ed} {cs : List Value}, EdsAre w cs l → ∀ n, EdsAre w (cs.take (n * 13)) (l.take n) ∧ EdsAre w (cs.drop (n * 13)) (l.drop n)
  | [], cs, h, n => by rw [show cs = [] from h]; simp [EdsAre]
  | x :: l, cs, h, 0 => by simpa [EdsAre] using h
  | x :: l, cs, h, n + 1 => by
    obtain ⟨c0, c1, c2, c3, c4, c5, c6, c7, c8, c9, c10, c11, c12, cs', rfl, h1, h2⟩ := h
    obtain ⟨g1, g2⟩ := h2.cut n
    rw [show (n + 1) * 13 = n * 13 + 1 + 1 + 1 + 1 + 1 + 1 + 1 + 1 + 1 + 1 + 1 + 1 + 1 by omega]
    simp only [List.take_succ_cons, List.drop_succ_cons]
    exact ⟨⟨c0, c1, c2, c3, c4, c5, c6, c7, c8, c9, c10, c11, c12, _, rfl, h1, g1⟩, g2⟩
theorem EdsAre.one {w : World} : ∀ {l : List Ed} {cs : List Value}, EdsAre w cs l → ∀ u ∈ cs, u.oneCell' = true
  | [], cs, h => by rw [show cs = [] from h]; intro u hu; cases hu
  | x :: l, cs, h => by
    obtain ⟨c0, c1, c2, c3, c4, c5, c6, c7, c8, c9, c10, c11, c12, cs', rfl, h1, h2⟩ := h
    have ih := h2.one
    obtain ⟨p0, m0, p1, n1, m1, p2, n2, m2, p3, n3, m3, q1, i1, j1, q2, i2, j2, q3, i3, j3, e, _⟩ := h1
    simp only [Value.agg.injEq, Array.mk.injEq, List.cons.injEq, and_true] at e
    obtain ⟨rfl, rfl, rfl, rfl, rfl, rfl, rfl, rfl, rfl, rfl, rfl, rfl, rfl⟩ := e
    intro u hu
    simp only [List.mem_cons] at hu
    rcases hu with rfl | rfl | rfl | rfl | rfl | rfl | rfl | rfl | rfl | rfl | rfl | rfl | rfl | hu
    all_goals first | rfl | exact ih u hu
theorem EdsAre.at {w : World} : ∀ {l : List Ed} {cs : List Value}, EdsAre w cs l → ∀ i (hi : i < l.length), ∃ c0 c1 c2 c3 c4 c5 c6 c7 c8 c9 c10 c11 c12, (∀ k, k < 13 → cs[i * 13 + k]? = [c0, c1, c2, c3, c4, c5, c6, c7, c8, c9, c10, c11, c12][k]?) ∧ IsEd w l[i] (.agg #[c0, c1, c2, c3, c4, c5, c6, c7, c8, c9, c10, c11, c12])
  | [], _, _, i, hi => by cases hi
  | x :: l, cs, h, 0, _ => by
    obtain ⟨c0, c1, c2, c3, c4, c5, c6, c7, c8, c9, c10, c11, c12, cs', rfl, h1, _⟩ := h
    refine ⟨c0, c1, c2, c3, c4, c5, c6, c7, c8, c9, c10, c11, c12, fun k hk => ?_, h1⟩
    match k, hk with
    | 0, _ => rfl
    | 1, _ => rfl
    | 2, _ => rfl
    | 3, _ => rfl
    | 4, _ => rfl
    | 5, _ => rfl
    | 6, _ => rfl
    | 7, _ => rfl
    | 8, _ => rfl
    | 9, _ => rfl
    | 10, _ => rfl
    | 11, _ => rfl
    | 12, _ => rfl
  | x :: l, cs, h, i + 1, hi => by
    obtain ⟨c0, c1, c2, c3, c4, c5, c6, c7, c8, c9, c10, c11, c12, cs', rfl, _, h2⟩ := h
    obtain ⟨d0, d1, d2, d3, d4, d5, d6, d7, d8, d9, d10, d11, d12, g, g4⟩ := h2.at i (by simpa using hi)
    refine ⟨d0, d1, d2, d3, d4, d5, d6, d7, d8, d9, d10, d11, d12, fun k hk => ?_, by simpa using g4⟩
    rw [show (i + 1) * 13 + k = i * 13 + k + 1 + 1 + 1 + 1 + 1 + 1 + 1 + 1 + 1 + 1 + 1 + 1 + 1 by omega]
    simp only [List.getElem?_cons_succ]
    exact g k hk
/-- The cells of a slice of Edits. -/
theorem IsEds.cellsAre {w : World} {v : Value} {l : List Ed} (h : IsEds w v l) : ∃ a cap cs, v = .slice a l.length cap ∧ l.length ≤ cap ∧ cap ≤ 9223372036854775807 ∧ EdsAre w cs l ∧ (l = [] ∨ ∃ b off, a = some ⟨b, off, none⟩ ∧ ∀ j u, cs[j]? = some u → w.cell? ⟨b, off + j, none⟩ = some u) := by
  obtain ⟨a, cap, rfl, h3, h4, h6⟩ := h
  rcases h6 with rfl | ⟨b, off, rfl, h6⟩
  · exact ⟨a, cap, [], rfl, h3, h4, rfl, .inl rfl⟩
  · have key : ∀ (l : List Ed) (off : Nat), EdAt w b off l → ∃ cs, EdsAre w cs l ∧ ∀ j u, cs[j]? = some u → w.cell? ⟨b, off + j, none⟩ = some u := by
      intro l
      induction l with
      | nil => intro off _; exact ⟨[], rfl, fun j u h => by simp at h⟩
      | cons x l ih =>
        intro off h
        obtain ⟨c0, c1, c2, c3, c4, c5, c6, c7, c8, c9, c10, c11, c12, g0, g1, g2, g3, g4, g5, g6, g7, g8, g9, g10, g11, g12, g13⟩ := h 0 (by simp)
        simp only [Nat.zero_mul, Nat.add_zero] at g0 g1 g2 g3 g4 g5 g6 g7 g8 g9 g10 g11 g12
        obtain ⟨cs, k1, k2⟩ := ih (off + 13) fun i hi => by
          have := h (i + 1) (by simpa using hi)
          rw [show off + (i + 1) * 13 = off + 13 + i * 13 by omega] at this
          simpa using this
        refine ⟨c0 :: c1 :: c2 :: c3 :: c4 :: c5 :: c6 :: c7 :: c8 :: c9 :: c10 :: c11 :: c12 :: cs, ⟨c0, c1, c2, c3, c4, c5, c6, c7, c8, c9, c10, c11, c12, cs, rfl, by simpa using g13, k1⟩, fun j u hj => ?_⟩
        match j, hj with
        | 0, hj => simp only [List.getElem?_cons_zero, Option.some.injEq] at hj; rw [← hj]; exact g0
        | 1, hj => simp only [List.getElem?_cons_succ, List.getElem?_cons_zero, Option.some.injEq] at hj; rw [← hj]; exact g1
        | 2, hj => simp only [List.getElem?_cons_succ, List.getElem?_cons_zero, Option.some.injEq] at hj; rw [← hj]; exact g2
        | 3, hj => simp only [List.getElem?_cons_succ, List.getElem?_cons_zero, Option.some.injEq] at hj; rw [← hj]; exact g3
        | 4, hj => simp only [List.getElem?_cons_succ, List.getElem?_cons_zero, Option.some.injEq] at hj; rw [← hj]; exact g4
        | 5, hj => simp only [List.getElem?_cons_succ, List.getElem?_cons_zero, Option.some.injEq] at hj; rw [← hj]; exact g5
        | 6, hj => simp only [List.getElem?_cons_succ, List.getElem?_cons_zero, Option.some.injEq] at hj; rw [← hj]; exact g6
        | 7, hj => simp only [List.getElem?_cons_succ, List.getElem?_cons_zero, Option.some.injEq] at hj; rw [← hj]; exact g7
        | 8, hj => simp only [List.getElem?_cons_succ, List.getElem?_cons_zero, Option.some.injEq] at hj; rw [← hj]; exact g8
        | 9, hj => simp only [List.getElem?_cons_succ, List.getElem?_cons_zero, Option.some.injEq] at hj; rw [← hj]; exact g9
        | 10, hj => simp only [List.getElem?_cons_succ, List.getElem?_cons_zero, Option.some.injEq] at hj; rw [← hj]; exact g10
        | 11, hj => simp only [List.getElem?_cons_succ, List.getElem?_cons_zero, Option.some.injEq] at hj; rw [← hj]; exact g11
        | 12, hj => simp only [List.getElem?_cons_succ, List.getElem?_cons_zero, Option.some.injEq] at hj; rw [← hj]; exact g12
        | j + 13, hj =>
          simp only [List.getElem?_cons_succ] at hj
          rw [show off + (j + 13) = off + 13 + j by omega]
          exact k2 j u hj
    obtain ⟨cs, k1, k2⟩ := key l off h6
    exact ⟨_, cap, cs, rfl, h3, h4, k1, .inr ⟨b, off, rfl, k2⟩⟩
/-- A row whose cells hold the Edits l. -/
theorem eds_of_row {w : World} {B : Nat} {p : Option Addr} {n cap : Nat} {cs : List Value} {l : List Ed} (h : w.ownsRow B 33 13 (.slice p n cap) n cs) (hn : n = l.length) (hc : EdsAre w cs l) : IsEds w (.slice p n cap) l := by
  subst hn
  have h' := h
  rcases h.2 with ⟨he, hz⟩ | ⟨g, c2, cur, he, _, _, hnc, hcm, _⟩
  · simp only [Value.slice.injEq] at he
    obtain ⟨rfl, _, rfl⟩ := he
    exact ⟨none, 0, rfl, by omega, by omega, .inl (List.eq_nil_of_length_eq_zero hz)⟩
  · simp only [Value.slice.injEq, true_and] at he
    obtain ⟨rfl, rfl⟩ := he
    refine ⟨_, cap, rfl, hnc, by unfold maxLen at hcm; omega, .inr ⟨g, 0, rfl, fun i hi => ?_⟩⟩
    obtain ⟨c0, c1, c2, c3, c4, c5, c6, c7, c8, c9, c10, c11, c12, g13, g14⟩ := hc.at i hi
    have hlen := hc.len
    have hcell : ∀ k, k < 13 → w.cell? ⟨g, i * 13 + k, none⟩ = [c0, c1, c2, c3, c4, c5, c6, c7, c8, c9, c10, c11, c12][k]? := fun k hk => by
      rw [h'.cellAt (i * 13 + k) (by omega), g13 k hk]
    rw [Nat.zero_add]
    exact ⟨c0, c1, c2, c3, c4, c5, c6, c7, c8, c9, c10, c11, c12, hcell 0 (by decide), hcell 1 (by decide), hcell 2 (by decide), hcell 3 (by decide), hcell 4 (by decide), hcell 5 (by decide), hcell 6 (by decide), hcell 7 (by decide), hcell 8 (by decide), hcell 9 (by decide), hcell 10 (by decide), hcell 11 (by decide), hcell 12 (by decide), g14⟩
end Go.Proofs.YtfdhmkmeffgkgaaDoor
namespace Go.Proofs.YtfdhmkmeffgkgaaDoor
open Go.RowKit

theorem takeE' {l : List Value} {n j : Nat} {u : Value} (h : (l.take n)[j]? = some u) : l[j]? = some u := by
  rw [List.getElem?_take] at h
  split at h
  · exact h
  · cases h
theorem dropE' {l : List Value} {n j : Nat} {u : Value} (h : (l.drop n)[j]? = some u) : l[n + j]? = some u := by rw [List.getElem?_drop] at h; exact h
def sliceLen : Value → Nat
  | .slice _ n _ => n
  | _ => 0
set_option maxRecDepth 100000 in
/-- append of nothing, as a step of a drawn region. -/
theorem step_append_nil {ops : Array Oper} {o : Oper} {a : Act} {w : World} {K : Act → World → Prop} {Q : Exit → Act → World → Prop} {E : Prop} (hgd : o.guard = none) (s x : Operand)
    (ho : o.op = .call { callee := .builtin .append, args := #[s, x], argTypes := #[41, 41] }) (b ad : Addr) (n cap c : Nat) (hs : a.eval s = .slice (some b) n cap) (hx : a.eval x = .slice (some ad) 0 c) (hn : n ≤ cap)
    (h : K (a.put o.dst (.slice (some b) n cap)) w) :
    if Region.wanted o (yielded ops a.tmps) = true then Oper.wp Tryd.prog o a w K Q else E := by
  have hw : Region.wanted o (yielded ops a.tmps) = true := by simp [Region.wanted, hgd]
  rw [if_pos hw]
  obtain ⟨i0, hi, hz0, hz1, hz2⟩ := info_parts info_edit
  have hrun : (Builtin.append_ #[41, 41] o.type #[.slice (some b) n cap, .slice (some ad) 0 c]).run Tryd.prog w = .ok (.slice (some b) n cap) w := by
    simp [Builtin.append_, run_underlying Tryd.underlying41, sizeOf, typeInfo, hi, Builtin.lenOf, Builtin.firstCells, hn, storeCells, loadCells, loadCellsFrom]
  unfold Oper.wp
  simp [execOp, ho, resolve, invoke, builtin, hs, hx, hrun, Result.andThen]
  exact h

set_option maxRecDepth 100000 in
set_option maxHeartbeats 8000000 in
theorem trimmed_is (l r : List Ed) (v : Value) (w : World) (ht : Trims l r) (hl : l.length ≤ 400) (ha : l.all edOk = true) (h : IsEds w v l) (hek : EkAt w) :
    Calls Tryd.prog 43 #[v] w fun e w' => ∃ v', e = .returned v' ∧ IsEds w' v' r ∧ Below w.heap.size w w' := by
  have HH := Lib.hid h
  have HT := Lib.hid ht
  have HA := Lib.hid ha
  have EK := Lib.hid hek
  obtain ⟨a, cap, rfl, _, _, _⟩ := h
  clear ht ha hek
  go_enter Tryd.func43, Tryd.ntmps43
  go_wp2_with fail
  go_loopw [0, 3] (fun lv i wr => ∃ (cur : List Ed) (at' : Nat), i = .int .i64 at' ∧ Hid (IsEds wr lv cur) ∧ Hid (∀ j, j < at' → pairAt cur j = false) ∧ Hid (Trims cur r) ∧ Hid (cur.all edOk = true) ∧ cur.length ≤ 400 ∧ at' ≤ cur.length ∧ Hid (Below w.heap.size w wr)) (fun lv i _ => 3 * sliceLen lv - (intOf i).toNat)
  case atStart => exact ⟨l, 0, rfl, HH.out, fun j hj => by omega, HT.out, HA.out, hl, Nat.zero_le _, Below.refl _ _⟩
  case round =>
    obtain ⟨cur, at', rfl, HI, HP, HTR, HAL, hcl, hac, HB⟩ := hrel
    obtain ⟨a, cap, cs, rfl, hlc, hc63, hare, hplace⟩ := IsEds.cellsAre HI.out
    obtain ⟨n', hn'⟩ : ∃ n', n' = at' + 1 := ⟨_, rfl⟩
    have hwr : IntKind.i64.wrap ((at' : Int) + 1) = (n' : Int) := (IntWalk.i64_in _ (by omega)).trans (by omega)
    by_cases hlt : n' < cur.length
    · obtain ⟨b, off, rfl, hcell⟩ : ∃ b off, a = some ⟨b, off, none⟩ ∧ ∀ j u, cs[j]? = some u → wr.cell? ⟨b, off + j, none⟩ = some u := by
        rcases hplace with h | h
        · rw [h] at hlt; cases hlt
        · exact h
      have hat : at' < cur.length := by omega
      obtain ⟨c0, c1, c2, c3, c4, c5, c6, c7, c8, c9, c10, c11, c12, gg, ge⟩ := hare.at at' hat
      obtain ⟨d0, d1, d2, d3, d4, d5, d6, d7, d8, d9, d10, d11, d12, hh, he⟩ := hare.at n' hlt
      have HARE := Lib.hid hare
      have HCELL := Lib.hid hcell
      have HLEN := Lib.hid hare.len
      have g0 : wr.cell? ⟨b, off + at' * 13, none⟩ = some c0 := by have := hcell (at' * 13 + 0) c0 (by rw [gg 0 (by decide)]; rfl); exact this
      have g1 : wr.cell? ⟨b, off + at' * 13 + 1, none⟩ = some c1 := by have := hcell (at' * 13 + 1) c1 (by rw [gg 1 (by decide)]; rfl); rw [← Nat.add_assoc] at this; exact this
      have g2 : wr.cell? ⟨b, off + at' * 13 + 2, none⟩ = some c2 := by have := hcell (at' * 13 + 2) c2 (by rw [gg 2 (by decide)]; rfl); rw [← Nat.add_assoc] at this; exact this
      have g3 : wr.cell? ⟨b, off + at' * 13 + 3, none⟩ = some c3 := by have := hcell (at' * 13 + 3) c3 (by rw [gg 3 (by decide)]; rfl); rw [← Nat.add_assoc] at this; exact this
      have g4 : wr.cell? ⟨b, off + at' * 13 + 4, none⟩ = some c4 := by have := hcell (at' * 13 + 4) c4 (by rw [gg 4 (by decide)]; rfl); rw [← Nat.add_assoc] at this; exact this
      have g5 : wr.cell? ⟨b, off + at' * 13 + 5, none⟩ = some c5 := by have := hcell (at' * 13 + 5) c5 (by rw [gg 5 (by decide)]; rfl); rw [← Nat.add_assoc] at this; exact this
      have g6 : wr.cell? ⟨b, off + at' * 13 + 6, none⟩ = some c6 := by have := hcell (at' * 13 + 6) c6 (by rw [gg 6 (by decide)]; rfl); rw [← Nat.add_assoc] at this; exact this
      have g7 : wr.cell? ⟨b, off + at' * 13 + 7, none⟩ = some c7 := by have := hcell (at' * 13 + 7) c7 (by rw [gg 7 (by decide)]; rfl); rw [← Nat.add_assoc] at this; exact this
      have g8 : wr.cell? ⟨b, off + at' * 13 + 8, none⟩ = some c8 := by have := hcell (at' * 13 + 8) c8 (by rw [gg 8 (by decide)]; rfl); rw [← Nat.add_assoc] at this; exact this
      have g9 : wr.cell? ⟨b, off + at' * 13 + 9, none⟩ = some c9 := by have := hcell (at' * 13 + 9) c9 (by rw [gg 9 (by decide)]; rfl); rw [← Nat.add_assoc] at this; exact this
      have g10 : wr.cell? ⟨b, off + at' * 13 + 10, none⟩ = some c10 := by have := hcell (at' * 13 + 10) c10 (by rw [gg 10 (by decide)]; rfl); rw [← Nat.add_assoc] at this; exact this
      have g11 : wr.cell? ⟨b, off + at' * 13 + 11, none⟩ = some c11 := by have := hcell (at' * 13 + 11) c11 (by rw [gg 11 (by decide)]; rfl); rw [← Nat.add_assoc] at this; exact this
      have g12 : wr.cell? ⟨b, off + at' * 13 + 12, none⟩ = some c12 := by have := hcell (at' * 13 + 12) c12 (by rw [gg 12 (by decide)]; rfl); rw [← Nat.add_assoc] at this; exact this
      have y0 : wr.cell? ⟨b, off + n' * 13, none⟩ = some d0 := by have := hcell (n' * 13 + 0) d0 (by rw [hh 0 (by decide)]; rfl); exact this
      have y1 : wr.cell? ⟨b, off + n' * 13 + 1, none⟩ = some d1 := by have := hcell (n' * 13 + 1) d1 (by rw [hh 1 (by decide)]; rfl); rw [← Nat.add_assoc] at this; exact this
      have y2 : wr.cell? ⟨b, off + n' * 13 + 2, none⟩ = some d2 := by have := hcell (n' * 13 + 2) d2 (by rw [hh 2 (by decide)]; rfl); rw [← Nat.add_assoc] at this; exact this
      have y3 : wr.cell? ⟨b, off + n' * 13 + 3, none⟩ = some d3 := by have := hcell (n' * 13 + 3) d3 (by rw [hh 3 (by decide)]; rfl); rw [← Nat.add_assoc] at this; exact this
      have y4 : wr.cell? ⟨b, off + n' * 13 + 4, none⟩ = some d4 := by have := hcell (n' * 13 + 4) d4 (by rw [hh 4 (by decide)]; rfl); rw [← Nat.add_assoc] at this; exact this
      have y5 : wr.cell? ⟨b, off + n' * 13 + 5, none⟩ = some d5 := by have := hcell (n' * 13 + 5) d5 (by rw [hh 5 (by decide)]; rfl); rw [← Nat.add_assoc] at this; exact this
      have y6 : wr.cell? ⟨b, off + n' * 13 + 6, none⟩ = some d6 := by have := hcell (n' * 13 + 6) d6 (by rw [hh 6 (by decide)]; rfl); rw [← Nat.add_assoc] at this; exact this
      have y7 : wr.cell? ⟨b, off + n' * 13 + 7, none⟩ = some d7 := by have := hcell (n' * 13 + 7) d7 (by rw [hh 7 (by decide)]; rfl); rw [← Nat.add_assoc] at this; exact this
      have y8 : wr.cell? ⟨b, off + n' * 13 + 8, none⟩ = some d8 := by have := hcell (n' * 13 + 8) d8 (by rw [hh 8 (by decide)]; rfl); rw [← Nat.add_assoc] at this; exact this
      have y9 : wr.cell? ⟨b, off + n' * 13 + 9, none⟩ = some d9 := by have := hcell (n' * 13 + 9) d9 (by rw [hh 9 (by decide)]; rfl); rw [← Nat.add_assoc] at this; exact this
      have y10 : wr.cell? ⟨b, off + n' * 13 + 10, none⟩ = some d10 := by have := hcell (n' * 13 + 10) d10 (by rw [hh 10 (by decide)]; rfl); rw [← Nat.add_assoc] at this; exact this
      have y11 : wr.cell? ⟨b, off + n' * 13 + 11, none⟩ = some d11 := by have := hcell (n' * 13 + 11) d11 (by rw [hh 11 (by decide)]; rfl); rw [← Nat.add_assoc] at this; exact this
      have y12 : wr.cell? ⟨b, off + n' * 13 + 12, none⟩ = some d12 := by have := hcell (n' * 13 + 12) d12 (by rw [hh 12 (by decide)]; rfl); rw [← Nat.add_assoc] at this; exact this
      have GE := Lib.hid ge
      have HE := Lib.hid he
      obtain ⟨rb, hrb⟩ : ∃ rb, goesB cur[at'] cur[n'] = rb := ⟨_, rfl⟩
      have HRB := Lib.hid hrb
      have HPA : Hid (pairAt cur at' = rb) := by
        show _ = _
        rw [← hrb]
        subst hn'
        exact pair_at hlt
      have HOK : Hid (edOk cur[at'] = true) := List.all_eq_true.1 HAL.out _ (List.getElem_mem hat)
      have EKW := Lib.hid (EK.out.keep (Keeps.of_below HB.out))
      have hlti : (n' : Int) < cur.length := by omega
      have hati : (at' : Int) < cur.length := by omega
      have HN' := Lib.hid hn'
      have HLTI : Hid (n' < cur.length) := hlt
      have HATI : Hid (at' < cur.length) := hat
      have HLC : Hid (cur.length ≤ cap) := hlc
      have HC63 : Hid (cap ≤ 9223372036854775807) := hc63
      clear hrb hare hcell hplace gg hh ge he hn'
      go_upto_region 3 with fail
      go_cut [19] (fun x wc => x = .bool (!rb) ∧ Hid (Below wr.heap.size wr wc))
      case first =>
        go_region_law (first
          | (go_simp; go_at_call 63; refine (comes_is cur[at'] cur[n'] rb HRB.out _ _ wr.drew HOK.out (GE.out.keep keeps_drew) (HE.out.keep keeps_drew) (EKW.out.keep keeps_drew)).mono ?_; rintro e w3 ⟨rfl, hb3⟩; have HB3 : Hid (Below wr.heap.size wr w3) := ((Below.refl _ wr).drew).trans hb3; clear hb3)
          | fail)
        all_goals
          go_wp2_with fail
          go_meet
          exact ⟨rfl, HB3.out⟩
      case rest =>
        obtain ⟨rfl, hb3⟩ := hcut
        rename World => wq
        have HI2 := Lib.hid (HI.out.keep (Keeps.of_below hb3.out))
        have HBQ := Lib.hid (HB.out.trans (hb3.out.mono HB.out.size))
        clear g0 y0 g1 y1 g2 y2 g3 y3 g4 y4 g5 y5 g6 y6 g7 y7 g8 y8 g9 y9 g10 y10 g11 y11 g12 y12
        cases rb
        · go_wp2_with fail
          go_roundw
          case rel => exact ⟨cur, n', rfl, HI2.out, by rw [HN'.out]; exact pair_next HP.out HPA.out, HTR.out, HAL.out, hcl, by have := HLTI.out; omega, HBQ.out⟩
          case measure => simp [intOf, sliceLen]; have := HATI.out; have := HN'.out; omega
        · obtain ⟨n2, hn2⟩ : ∃ n2, n2 = at' + 2 := ⟨_, rfl⟩
          have HN2 := Lib.hid hn2
          have hwr2 : IntKind.i64.wrap ((at' : Int) + 2) = (n2 : Int) := (IntWalk.i64_in _ (by omega)).trans (by omega)
          have hn2l : n2 ≤ cur.length := by have := HLTI.out; have := HN'.out; omega
          have HN2L : Hid (n2 ≤ cur.length) := hn2l
          have hn2c : n2 ≤ cap := by have := HLC.out; omega
          have hatc : at' ≤ cap := by have := HLC.out; have := HATI.out; omega
          have HCQ : Hid (∀ j u, cs[j]? = some u → wq.cell? ⟨b, off + j, none⟩ = some u) := fun j u hj => Keeps.of_below hb3.out _ _ _ (HCELL.out j u hj)
          have HAREQ := Lib.hid (HARE.out.keep (Keeps.of_below hb3.out))
          have HCUT : Hid (EdsAre wq (cs.take (at' * 13) ++ cs.drop (n2 * 13)) (cut2 cur at')) := by
            show EdsAre _ _ _
            rw [hn2]
            exact (HAREQ.out.cut at').1.app (HAREQ.out.cut (at' + 2)).2
          have HONE := Lib.hid HARE.out.one
          have HTC : Hid (Trims (cut2 cur at') r) := HTR.out.next HP.out HPA.out
          have HL2 : Hid (at' + 1 < cur.length) := by show _ < _; have := HLTI.out; have := HN'.out; omega
          clear hb3 hn2
          by_cases hlt2 : n2 < cur.length
          · have hn2cc : n2 < cap := by have := HLC.out; omega
            have HLT2 : Hid (n2 < cur.length) := hlt2
            have hcn : ¬ cap = n2 := by omega
            obtain ⟨i0, hi, hz0, hz1, hz2⟩ := info_parts info_edit
            go_upto_region 5 with fail
            go_cut [0] (fun x wc => Hid (IsEds wc x (cut2 cur at')) ∧ Hid (Below wq.heap.size wq wc))
            case first =>
              go_region_law (first
                | (refine step_append_grows rfl (.tmp 25) (.tmp 29) 41 rfl 33 i0 _ 13 232 Tryd.underlying41 hi hz0 hz1 hz2 rfl (by decide) (some ⟨b, off, none⟩) at' at' (cs.take (at' * 13)) (by simp [Act.eval, Act.put]) (fun h => by cases h) (by have := HLEN.out; have := HATI.out; rw [List.length_take]; omega) (fun q hq j u hj => by obtain rfl := Option.some.inj hq; rw [add_atE]; exact HCQ.out j u (takeE' hj)) ⟨b, off + n2 * 13, none⟩ (cur.length - n2) (cap - n2) (cs.drop (n2 * 13)) (by simp [Act.eval, Act.put]) (by have := HLEN.out; have := HLT2.out; rw [List.length_drop]; omega) (fun j u hj => by rw [add_atE, Nat.add_assoc]; exact HCQ.out _ u (dropE' hj)) (fun u hu => HONE.out u (List.mem_of_mem_drop hu)) (by have := HLT2.out; omega) (by unfold maxLen; have := HATI.out; omega) (by have := HATI.out; omega) ?_; intro v' w' hown hgrow; obtain ⟨p', cap', rfl⟩ := own_slice' hown; have HOWN := Lib.hid hown; have HG := Lib.hid hgrow; clear hown hgrow)
                | fail)
              all_goals
                go_wp2_with fail
                go_meet
                have hbw : Below wq.heap.size wq _ := ((Below.refl wq.heap.size wq).drew).grown HG.out (Nat.le_refl _) (fun k hk => by cases hk)
                exact ⟨eds_of_row HOWN.out (by rw [cut2_len HL2.out]; have := HN2.out; have := HLT2.out; omega) (HCUT.out.keep (Keeps.of_below hbw)), hbw⟩
            case rest =>
              obtain ⟨hx, hbc⟩ := hcut
              rename World => wz
              have HIZ := hx
              have HBZ := Lib.hid (HBQ.out.trans (hbc.out.mono HBQ.out.size))
              obtain ⟨az, cz, rfl, _⟩ := hx.out
              clear hbc hx
              have HL3 : Hid ((cut2 cur at').length = cur.length - 2) := cut2_len HL2.out
              have HC4 : Hid ((cut2 cur at').length ≤ 400) := by show _ ≤ _; rw [HL3.out]; omega
              have HPC := Lib.hid (pair_cut HL2.out HP.out)
              have HAC := Lib.hid (cut2_all (i := at') HAL.out)
              by_cases h0 : at' = 0
              · subst h0
                go_wp2_with fail
                go_roundw
                case rel => exact ⟨cut2 cur 0, 0, rfl, HIZ.out, fun j hj => by omega, HTC.out, HAC.out, HC4.out, Nat.zero_le _, HBZ.out⟩
                case measure => simp [intOf, sliceLen]; have := HL3.out; have := HL2.out; omega
              · obtain ⟨m, rfl⟩ : ∃ m, at' = m + 1 := ⟨at' - 1, by omega⟩
                have hm1 : IntKind.i64.wrap (((m + 1 : Nat) : Int) - 1) = (m : Int) := (IntWalk.i64_in _ (by omega)).trans (by omega)
                have hm2 : ((m + 1 : Nat) : Int) - 1 = (m : Int) := by omega
                have hm3 : ((m : Int) + 1) - 1 = (m : Int) := by omega
                go_wp2_with fail
                go_roundw
                case rel => exact ⟨cut2 cur (m + 1), m, by go_num, HIZ.out, fun j hj => HPC.out j (by omega), HTC.out, HAC.out, HC4.out, by have := HL3.out; have := HL2.out; omega, HBZ.out⟩
                case measure => simp [intOf, sliceLen]; have := HL3.out; have := HL2.out; omega
          · have HZ0 : Hid (cur.length - n2 = 0) := by show _ = _; omega
            have hz0 : cur.length - n2 = 0 := HZ0.out
            have HDN : Hid (cut2 cur at' = cur.take at') := by show _ = _; unfold cut2; rw [List.drop_eq_nil_of_le (by have := HN2.out; omega), List.append_nil]
            have HUP : Hid (IsEds wq (.slice (some ⟨b, off, none⟩) at' at') (cut2 cur at')) := by
              show IsEds _ _ _
              rw [HDN.out]
              obtain ⟨a9, c9, e9, q3, q4, q6⟩ := HI2.out
              simp only [Value.slice.injEq] at e9
              obtain ⟨rfl, _, rfl⟩ := e9
              have hln : (cur.take at').length = at' := by rw [List.length_take]; have := HATI.out; omega
              refine ⟨_, at', by rw [hln], by rw [hln]; exact Nat.le_refl _, by have := HATI.out; omega, ?_⟩
              rcases q6 with q6 | ⟨b', off', e, q6⟩
              · left; rw [q6]; simp
              · refine .inr ⟨b', off', e, fun i hi => ?_⟩
                rw [List.length_take] at hi
                have := q6 i (by omega)
                simpa using this
            by_cases hcn : cap = n2
            · obtain rfl : n2 = cap := hcn.symm
              go_upto_region 5 with fail
              go_cut [0] (fun x wc => Hid (IsEds wc x (cut2 cur at')) ∧ Hid (Below wq.heap.size wq wc))
              case first =>
                go_region_law (first
                  | (refine step_append_nil rfl (.tmp 25) (.tmp 29) rfl ⟨b, off, none⟩ ⟨b, off, none⟩ at' at' 0 (by simp [Act.eval, Act.put]) (by simp [Act.eval, Act.put]) (Nat.le_refl _) ?_)
                  | fail)
                all_goals
                  go_wp2_with fail
                  go_meet
                  exact ⟨HUP.out.keep keeps_drew, (Below.refl _ wq).drew⟩
              case rest =>
                obtain ⟨hx, hbc⟩ := hcut
                rename World => wz
                have HIZ := hx
                have HBZ := Lib.hid (HBQ.out.trans (hbc.out.mono HBQ.out.size))
                obtain ⟨az, cz, rfl, _⟩ := hx.out
                clear hbc hx
                have HL3 : Hid ((cut2 cur at').length = cur.length - 2) := cut2_len HL2.out
                have HC4 : Hid ((cut2 cur at').length ≤ 400) := by show _ ≤ _; rw [HL3.out]; omega
                have HPC := Lib.hid (pair_cut HL2.out HP.out)
                have HAC := Lib.hid (cut2_all (i := at') HAL.out)
                by_cases h0 : at' = 0
                · subst h0
                  go_wp2_with fail
                  go_roundw
                  case rel => exact ⟨cut2 cur 0, 0, rfl, HIZ.out, fun j hj => by omega, HTC.out, HAC.out, HC4.out, Nat.zero_le _, HBZ.out⟩
                  case measure => simp [intOf, sliceLen]; have := HL3.out; have := HL2.out; omega
                · obtain ⟨m, rfl⟩ : ∃ m, at' = m + 1 := ⟨at' - 1, by omega⟩
                  have hm1 : IntKind.i64.wrap (((m + 1 : Nat) : Int) - 1) = (m : Int) := (IntWalk.i64_in _ (by omega)).trans (by omega)
                  have hm2 : ((m + 1 : Nat) : Int) - 1 = (m : Int) := by omega
                  have hm3 : ((m : Int) + 1) - 1 = (m : Int) := by omega
                  go_wp2_with fail
                  go_roundw
                  case rel => exact ⟨cut2 cur (m + 1), m, by go_num, HIZ.out, fun j hj => HPC.out j (by omega), HTC.out, HAC.out, HC4.out, by have := HL3.out; have := HL2.out; omega, HBZ.out⟩
                  case measure => simp [intOf, sliceLen]; have := HL3.out; have := HL2.out; omega
            · go_upto_region 5 with fail
              go_cut [0] (fun x wc => Hid (IsEds wc x (cut2 cur at')) ∧ Hid (Below wq.heap.size wq wc))
              case first =>
                go_region_law (first
                  | (refine step_append_nil rfl (.tmp 25) (.tmp 29) rfl ⟨b, off, none⟩ ⟨b, off + n2 * 13, none⟩ at' at' (cap - n2) (by simp [Act.eval, Act.put]) (by simp [Act.eval, Act.put]) (Nat.le_refl _) ?_)
                  | fail)
                all_goals
                  go_wp2_with fail
                  go_meet
                  exact ⟨HUP.out.keep keeps_drew, (Below.refl _ wq).drew⟩
              case rest =>
                obtain ⟨hx, hbc⟩ := hcut
                rename World => wz
                have HIZ := hx
                have HBZ := Lib.hid (HBQ.out.trans (hbc.out.mono HBQ.out.size))
                obtain ⟨az, cz, rfl, _⟩ := hx.out
                clear hbc hx
                have HL3 : Hid ((cut2 cur at').length = cur.length - 2) := cut2_len HL2.out
                have HC4 : Hid ((cut2 cur at').length ≤ 400) := by show _ ≤ _; rw [HL3.out]; omega
                have HPC := Lib.hid (pair_cut HL2.out HP.out)
                have HAC := Lib.hid (cut2_all (i := at') HAL.out)
                by_cases h0 : at' = 0
                · subst h0
                  go_wp2_with fail
                  go_roundw
                  case rel => exact ⟨cut2 cur 0, 0, rfl, HIZ.out, fun j hj => by omega, HTC.out, HAC.out, HC4.out, Nat.zero_le _, HBZ.out⟩
                  case measure => simp [intOf, sliceLen]; have := HL3.out; have := HL2.out; omega
                · obtain ⟨m, rfl⟩ : ∃ m, at' = m + 1 := ⟨at' - 1, by omega⟩
                  have hm1 : IntKind.i64.wrap (((m + 1 : Nat) : Int) - 1) = (m : Int) := (IntWalk.i64_in _ (by omega)).trans (by omega)
                  have hm2 : ((m + 1 : Nat) : Int) - 1 = (m : Int) := by omega
                  have hm3 : ((m : Int) + 1) - 1 = (m : Int) := by omega
                  go_wp2_with fail
                  go_roundw
                  case rel => exact ⟨cut2 cur (m + 1), m, by go_num, HIZ.out, fun j hj => HPC.out j (by omega), HTC.out, HAC.out, HC4.out, by have := HL3.out; have := HL2.out; omega, HBZ.out⟩
                  case measure => simp [intOf, sliceLen]; have := HL3.out; have := HL2.out; omega
    · have HR : Hid (r = cur) := HTR.out.last (pair_end (i := at') (by omega) HP.out)
      have hge : ¬ (n' : Int) < cur.length := by omega
      clear hplace hare hn'
      go_wp2_with fail
      go_ret
      exact ⟨_, rfl, by rw [HR.out]; exact HI.out, HB.out⟩
end Go.Proofs.YtfdhmkmeffgkgaaDoor
